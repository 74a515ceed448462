/-
  Parts.
-/
import Derived.Test.YtdhnddfnckgbjaaGreatZi19
namespace Go.Proofs.YtdhnddfnckgbjaaGreat
open Go.RowKit
set_option linter.unusedSimpArgs false
set_option linter.unusedVariables false
set_option maxRecDepth 100000
set_option maxHeartbeats 8000000
variable {area c src t to:Int}{al:List Int}{xs:List RecD}{ds es:List WayD}{r:RecD}{d w:WayD}{S:WayD->Prop}
def Zf3 (xs:List RecD)(area src to:Int):Prop:=∀ d,d∈Zcd xs area src->d.to≠to
def Zcc (area src to c:Int):RecD:=⟨area,2,src,to,0,[],c,false⟩
def ZcX (xs:List RecD)(al:List Int)(src area to c:Int):Prop:=Zf3 xs area src to/\to≠src /\
 ((∃ w,Zav to (ZaI xs al src to) (some w)/\c=w.cost)\/(area≠0/\∃ w,Zav to (Zb0 xs al true src to) (some w)/\c=w.cost))
def ZcH (xs:List RecD)(al:List Int)(src area:Int)(ds:List RecD):Prop:=Asc ds/\∀ r,r∈ds↔∃ to c,r=Zcc area src to c/\ZcX xs al src area to c
theorem ZjJ :∀ {a b:List RecD},Asc a->Asc b->(∀ x,x∈a↔x∈b)->a=b
 | [],[],_,_,_=>rfl
 | [],y::ys,_,_,h=>by have:=(h y).2 (by simp);cases this
 | x::xs,[],_,_,h=>by have:=(h x).1 (by simp);cases this
 | x::xs,y::ys,ha,hb,h=>by
  have ha':=YAh.1 ha;have hb':=YAh.1 hb;have irr:∀ z:RecD,Zat z z=true->False:=fun z hz=>by
   have:=(ZfE (x:=z) (y:=z) (by simp [Zbc])).1;rw [this] at hz;cases hz
  have hxy:x=y:=by
   have h1:=(h x).1 (by simp);have h2:=(h y).2 (by simp);rcases YAR.1 h1 with e | e
   ·exact e
   ·rcases YAR.1 h2 with e2 | e2
    ·exact e2.symm
    ·exact (irr x (Zh2 (ha'.1 y e2) (hb'.1 x e))).elim
  subst hxy;have:xs=ys:=by
   refine ZjJ ha'.2 hb'.2 (fun z=>?_);have hz:=h z;constructor
   ·intro hm;have h1:=hz.1 (YAe _ hm);rcases YAR.1 h1 with e | e
    ·have:=ha'.1 z hm;subst e;exact (irr z this).elim
    ·exact e
   ·intro hm;have h1:=hz.2 (YAe _ hm);rcases YAR.1 h1 with e | e
    ·have:=hb'.1 z hm;subst e;exact (irr z this).elim
    ·exact e
  rw [this]
theorem ZcH.unique {a b:List RecD}(ha:ZcH xs al src area a)(hb:ZcH xs al src area b):a=b:=
 ZjJ ha.1 hb.1 (fun r=>by rw [ha.2,hb.2])
theorem Zei (h:Zav to S (some w))(hS:∀ d,S d->GoodW d/\d.to=to):GoodW w/\w.to=to:=⟨h.good hS,h.1⟩
theorem ZcA (h:ZcX xs al src area to c):1<=to/\to<=6:=by
 obtain⟨_,_,⟨w,h1,_⟩ | ⟨_,w,h1,_⟩⟩:=h
 ·have hg:=Zei h1 (fun d h=>ZaL h);rw [<-hg.2];exact hg.1.node
 ·have hg:=Zei h1 (fun d h=>ZaU h);rw [<-hg.2];exact hg.1.node
theorem Zjz {c':Int}(h:ZcX xs al src area to c)(h':ZcX xs al src area to c'):c=c':=by
 have hno:∀ {w v:WayD},Zav to (ZaI xs al src to) (some w)->Zav to (Zb0 xs al true src to) (some v)->False:=by
  intro w v h1 h2;obtain⟨_,⟨u,hu,_⟩,_⟩:=h1;obtain⟨_,⟨u',hu',_⟩,_⟩:=h2;exact hu'.1 u hu
 obtain⟨_,_,⟨w,h1,rfl⟩ | ⟨_,w,h1,rfl⟩⟩:=h
 ·obtain ⟨_,_,⟨v,h2,rfl⟩ | ⟨_,v,h2,rfl⟩⟩:=h'
  ·have:=h1.unique h2;cases this;rfl
  ·exact (hno h1 h2).elim
 ·obtain ⟨_,_,⟨v,h2,rfl⟩ | ⟨_,v,h2,rfl⟩⟩:=h'
  ·exact (hno h2 h1).elim
  ·have:=h1.unique h2;cases this;rfl
theorem ZdI {a b d:Int}:Zat (Zcc area src a c) (Zcc area src b d)=decide (a<b):=by
 simp [Zat,Zcc]
 try exact decide_eq_decide.2 Iff.rfl
theorem ZcH.tot {ds:List RecD}(h:ZcH xs al src area ds):ds.length<=6/\∀ r∈ds,r.near=[]:=by
 constructor
 ·have h1:(ds.map (·.key)).Pairwise (· < ·):=by
   rw [YAY];refine List.Pairwise.imp_of_mem ?_ h.1;intro a b ha hb hab;obtain⟨to,c,rfl,_⟩:=(h.2 a).1 ha;obtain⟨to',c',rfl,_⟩:=(h.2 b).1 hb;rw [ZdI] at hab;exact of_decide_eq_true hab
  have h2:=ZdK h1 (fun z hz=>by
   obtain⟨r,hr,rfl⟩:=YAV.1 hz;obtain⟨to,c,rfl,ht⟩:=(h.2 r).1 hr;exact ZcA ht)
  simpa using h2
 ·intro r hr;obtain⟨to,c,rfl,_⟩:=(h.2 r).1 hr;rfl
theorem Zgx (hn:Zf3 xs area src to)(d:WayD):ZaI xs (al.filter (fun a=>a != area)) src to d↔ZaI xs al src to d:=by
 constructor
 ·rintro ⟨h1,a,h2,h3⟩;exact⟨h1,a,(YAT.1 h2).1,h3⟩
 ·rintro ⟨h1,a,h2,h3⟩;refine⟨h1,a,YAT.2 ⟨h2,?_⟩,h3⟩;have:a≠area:=fun e=>by subst e;exact hn d h3 h1
  simpa using this
theorem Znd (xs:List RecD)(area src to:Int):(Zbb (Zcd xs area src) to=true/\¬Zf3 xs area src to)\/(Zbb (Zcd xs area src) to=false/\Zf3 xs area src to):=by
 rcases ZcZ (Zcd xs area src) to with ⟨h1,h2⟩ | ⟨h1,h2⟩
 ·have h3:=Za2 h2;exact .inl ⟨h1,fun h=>h _ h3.1 h3.2⟩
 ·exact .inr ⟨h1,fun d hd=>ZeP h2 d hd⟩
theorem ZjL {S:Int->WayD->Prop}(h:ZaA S ds)(to:Int):(Zbb ds to=true/\Zav to (S to) (some (ZbE ds to)))\/(Zbb ds to=false/\∀ d,¬S to d):=by
 have hb:=h.2 to;rcases ZcZ ds to with ⟨h1,h2⟩ | ⟨h1,h2⟩
 ·rw [h2] at hb;exact .inl ⟨h1,hb⟩
 ·rw [h2] at hb;exact .inr ⟨h1,hb⟩
theorem ZhB (h:∀ d,¬S d):¬Zav to S (some w):=fun ⟨_,⟨u,hu,_⟩,_⟩=>h u hu
def ZaF (xs:List RecD)(al:List Int)(src area:Int)(t:Int)(ds:List RecD):Prop:=Asc ds/\∀ r,r∈ds↔∃ to c,r=Zcc area src to c/\to<t/\ZcX xs al src area to c
theorem ZaF.skip {ds:List RecD}(h:ZaF xs al src area t ds)(hn:∀ c,¬ZcX xs al src area t c):ZaF xs al src area (t+1) ds:=by
 refine⟨h.1,fun r=>?_⟩;rw [h.2];constructor
 ·rintro ⟨to,c,h1,h2,h3⟩;exact⟨to,c,h1,by omega,h3⟩
 ·rintro ⟨to,c,h1,h2,h3⟩;refine⟨to,c,h1,?_,h3⟩;by_cases e:to=t
  ·subst e;exact absurd h3 (hn c)
  ·omega
theorem ZaF.push {ds:List RecD}(h:ZaF xs al src area t ds)(ht:ZcX xs al src area t c):ZaF xs al src area (t+1) (ds++[Zcc area src t c]):=by
 refine⟨?_,fun r=>?_⟩
 ·unfold Asc;rw [YAP];refine⟨h.1,by simp,fun a ha b hb=>?_⟩;have:b=Zcc area src t c:=by simpa using hb
  subst this;obtain⟨to,c',rfl,h2,_⟩:=(h.2 a).1 ha;rw [ZdI];simpa using h2
 ·rw [YAH,h.2];constructor
  ·rintro (⟨to,c',h1,h2,h3⟩ | h1)
   ·exact ⟨to,c',h1,by omega,h3⟩
   ·exact ⟨t,c,by simpa using h1,by omega,ht⟩
  ·rintro ⟨to,c',h1,h2,h3⟩;by_cases e:to=t
   ·subst e;rw [Zjz h3 ht] at h1;exact .inr (by simpa using h1)
   ·exact .inl ⟨to,c',h1,by omega,h3⟩
theorem ZaF.all {ds:List RecD}(h:ZaF xs al src area 7 ds):ZcH xs al src area ds:=by
 refine⟨h.1,fun r=>?_⟩;rw [h.2];constructor
 ·rintro ⟨to,c,h1,_,h3⟩;exact⟨to,c,h1,h3⟩
 ·rintro ⟨to,c,h1,h3⟩;exact⟨to,c,h1,by have:=ZcA h3;omega,h3⟩
theorem ZaF.none :ZaF xs al src area 1 []:=by
 refine⟨List.Pairwise.nil,fun r=>?_⟩;constructor
 ·intro h;cases h
 ·rintro ⟨to,c,_,h2,h3⟩;have:=ZcA h3;omega
theorem ZaF.len {ds:List RecD}(h:ZaF xs al src area t ds):ds.length<=6/\∀ r∈ds,r.near=[]:=by
 constructor
 ·have h1:(ds.map (·.key)).Pairwise (· < ·):=by
   rw [YAY];refine List.Pairwise.imp_of_mem ?_ h.1;intro a b ha hb hab;obtain⟨to,c,rfl,_⟩:=(h.2 a).1 ha;obtain⟨to',c',rfl,_⟩:=(h.2 b).1 hb;rw [ZdI] at hab;exact of_decide_eq_true hab
  have h2:=ZdK h1 (fun z hz=>by
   obtain⟨r,hr,rfl⟩:=YAV.1 hz;obtain⟨to,c,rfl,_,ht⟩:=(h.2 r).1 hr;exact ZcA ht)
  simpa using h2
 ·intro r hr;obtain⟨to,c,rfl,_⟩:=(h.2 r).1 hr;rfl
theorem Zk5 (h:ZcX xs al src area to c):ZaN xs=true:=by
 obtain⟨_,_,⟨w,⟨_,⟨u,hu,_⟩,_⟩,_⟩ | ⟨_,w,⟨_,⟨u,hu,_⟩,_⟩,_⟩⟩:=h
 ·obtain ⟨_,a,_,h3⟩:=hu;exact (Ze9 h3).1
 ·obtain ⟨_,a,_,_,h3⟩:=hu;exact (Zis h3).1
def Zfk (to:Int)(S:WayD->Prop)(E:WayD)(fv:Value):Prop:=∃ F:Bool,fv=.bool F/\Zav to S (if F then some E else none)
theorem Zfk.of {E:WayD}{F:Bool}(h:Zav to S (if F then some E else none)):Zfk to S E (.bool F):=⟨F,rfl,h⟩
theorem ZnH (v uw:Value)(ps:List RP)(ws:List WP)(hi lo2 hi2 lo:Nat)(area src to:Int)(b0:WayD)(bv0:Value)(F0:Bool)(w:World)(S0:WayD->Prop)(hv:RecsIn w hi v ps)(hhi:hi<=w.heap.size)(hn:tot ps<=1048576)
  (hw:WaysOwn w lo2 hi2 uw ws) (hhi2:hi2<=w.heap.size) (hws:Zam ws=Zcd (fsts ps) area src) (hst:ZaN (fsts ps)=true) (hbo:Zav to S0 (if F0 then some b0 else none)) (hS0:∀ d,S0 d->GoodW d/\d.to=to) (hb0:w.ownsRow lo 3 1 bv0 b0.hops.length (flat intE b0.hops)) (hlo:lo<=w.heap.size) (hl0:b0.hops.length<=6):
  Calls Tryz.prog 110 #[v,uw,.int .i64 area,.int .i64 src,.int .i64 to,.agg (wayC b0 bv0),.bool F0] w fun e w'=>∃ (E:WayD) (u fv:Value),e=.returned (.tuple #[.agg (wayC E u),fv])/\Zfk to (fun d=>S0 d\/outS (fsts ps) (fsts ps) area src to d) E fv/\w'.ownsRow lo 3 1 u E.hops.length (flat intE E.hops)/\E.hops.length<=6/\Below w.heap.size w w':=by
 have hnl:=ZcB ps;obtain⟨a1,c1,rfl⟩:=Zac hv.row;obtain⟨a2,c2,rfl⟩:=Zac hw.row;obtain⟨a3,c3,rfl⟩:=Zac hb0;have hwt:totW ws<=1048576:=by have:=ZhS hws;omega
 have BX:Below w.heap.size w ((w.alloc (.cells #[.int .i64 b0.to,.int .i64 b0.cost,.slice a3 b0.hops.length c3] 144)).alloc (.cells #[.int .i64 0,.int .i64 0,.slice none 0 0] 144)):=ZaK _ _;have q0:((w.alloc (.cells #[.int .i64 b0.to,.int .i64 b0.cost,.slice a3 b0.hops.length c3] 144)).alloc (.cells #[.int .i64 0,.int .i64 0,.slice none 0 0] 144)).heap[w.heap.size]? = some (.cells #[.int .i64 b0.to,.int .i64 b0.cost,.slice a3 b0.hops.length c3] 144):=by
  rw [YAI _ _ _ (by simp),YAE]
 have q1:((w.alloc (.cells #[.int .i64 b0.to,.int .i64 b0.cost,.slice a3 b0.hops.length c3] 144)).alloc (.cells #[.int .i64 0,.int .i64 0,.slice none 0 0] 144)).heap[w.heap.size+1]? = some (.cells #[.int .i64 0,.int .i64 0,.slice none 0 0] 144):=by
  have e:=YAE (w.alloc (.cells #[.int .i64 b0.to,.int .i64 b0.cost,.slice a3 b0.hops.length c3] 144)) (.cells #[.int .i64 0,.int .i64 0,.slice none 0 0] 144);rw [show (w.alloc (.cells #[.int .i64 b0.to,.int .i64 b0.cost,.slice a3 b0.hops.length c3] 144)).heap.size=w.heap.size+1 by simp] at e;exact e
 have hs2:((w.alloc (.cells #[.int .i64 b0.to,.int .i64 b0.cost,.slice a3 b0.hops.length c3] 144)).alloc (.cells #[.int .i64 0,.int .i64 0,.slice none 0 0] 144)).heap.size=w.heap.size+2:=by simp
 obtain⟨w0,hw0⟩:∃ W,W=((w.alloc (.cells #[.int .i64 b0.to,.int .i64 b0.cost,.slice a3 b0.hops.length c3] 144)).alloc (.cells #[.int .i64 0,.int .i64 0,.slice none 0 0] 144)):=⟨_,rfl⟩;rw [<-hw0] at BX q0 q1 hs2;have HBX0:=hide (show BoxT w0 w.heap.size lo b0 (.slice a3 b0.hops.length c3) from ⟨q0,Zad hb0 BX (YA _),hl0⟩);have HQ1:=hide q1;have HV:=hide hv;have HWT:=hide (fun (z:Int) (W:World) (hb:Below w.heap.size w W)=>ZbY (.slice a2 ws.length c2) ws lo2 hi2 z W (hw.below hb hhi2) (YAG hhi2 hb.size) hwt);have HB0:=hide (show Zav to (fun d=>S0 d\/outS (fsts ps) ((fsts ps).take 0) area src to d) (if F0 then some b0 else none) from hbo.congr (fun d=>⟨.inl,by rintro (h | ⟨_,r,h,_⟩);exact h;simp at h⟩));have HS2:=hide hs2;unfold wayC;clear hv hw hb0 q0 q1 hbo hs2
 go_enter Tryz.func110,Tryz.ntmps110
 go_wp2;rw [<-hw0];clear hw0
 go_loopw [16,6] (fun i f wr=>∃ (k:Nat) (F:Bool) (b:WayD) (bv:Value),k<=ps.length/\i=.int .i64 (k:Int)/\f=.bool F/\BoxT wr w.heap.size lo b bv/\wr.heap[w.heap.size+1]? = some (.cells #[.int .i64 0,.int .i64 0,.slice none 0 0] 144)/\Hid (Zav to (fun d=>S0 d\/outS (fsts ps) ((fsts ps).take k) area src to d) (if F then some b else none))/\Below w.heap.size w wr/\w.heap.size+2<=wr.heap.size) (fun i _ _=>ps.length-(intOf i).toNat)
 case atStart=>exact ⟨0,F0,b0,_,by omega,rfl,rfl,HBX0.out,HQ1.out,HB0,BX,by have:=HS2.out;omega⟩
 case round=>
  obtain⟨k,F,b,bv,hk,rfl,rfl,hbx,hrz,HBO,hnx,hsz⟩:=hrel;clear HBX0 HQ1 HB0 HS2 BX;obtain⟨ba,bc,rfl⟩:=Zac hbx.own;by_cases hlt:k<ps.length
  ·obtain ⟨p,hp⟩:∃ p,ps[k]? = some p:=⟨ps[k],YAA hlt⟩;obtain⟨bb,off,cap',hve,hbb,c0,c1,c2,c3,c4,c5,c6,c7,hnr⟩:=HV.out.at.cells k p hp;cases hve;obtain⟨pa,pc,hpn⟩:=ZaJ.shape hnr;rw [hpn] at c5;replace c0:=(hnx.cell (YAC hbb hhi)).trans c0;replace c1:=(hnx.cell (YAC hbb hhi)).trans c1;replace c2:=(hnx.cell (YAC hbb hhi)).trans c2;replace c3:=(hnx.cell (YAC hbb hhi)).trans c3;replace c4:=(hnx.cell (YAC hbb hhi)).trans c4;replace c5:=(hnx.cell (YAC hbb hhi)).trans c5;replace c6:=(hnx.cell (YAC hbb hhi)).trans c6;replace c7:=(hnx.cell (YAC hbb hhi)).trans c7;have HPP:=hide (Zcf hp);have hpm:p.1∈fsts ps:=YAF (Zcf hp);have BAL:Below wr.heap.size wr (wr.alloc (.cells #[.int .i64 p.1.area,.int .i64 p.1.kind,.int .i64 p.1.owner,.int .i64 p.1.key,.int .i64 p.1.seq,.slice pa p.1.near.length pc,.int .i64 p.1.cost,.bool p.1.far] 132)):=(YAB _ _).alloc (YA _) _;have hxl:=YAE wr (.cells #[.int .i64 p.1.area,.int .i64 p.1.kind,.int .i64 p.1.owner,.int .i64 p.1.key,.int .i64 p.1.seq,.slice pa p.1.near.length pc,.int .i64 p.1.cost,.bool p.1.far] 132);obtain⟨wl,hwl⟩:∃ W,W=(wr.alloc (.cells #[.int .i64 p.1.area,.int .i64 p.1.kind,.int .i64 p.1.owner,.int .i64 p.1.key,.int .i64 p.1.seq,.slice pa p.1.near.length pc,.int .i64 p.1.cost,.bool p.1.far] 132)):=⟨_,rfl⟩;rw [<-hwl] at BAL hxl;have hki:(0:Int)<=(k:Int):=by omega
   have hkj:(k:Int)<(ps.length:Int):=by omega
   clear hp hnr hpn;by_cases hK:p.1.kind=2
   case neg=>
    have hd:(p.1.kind != 2)=true:=by simpa using hK
    have HhK:=hide hK;clear hK;have HN:=hide (Zbx HPP.out HBO.out (fun d hdt ht=>HhK.out ht.1));have HBX:=hide (hbx.below BAL);have HRZ:=hide ((BAL.block _ (by have:=Zab hrz;omega)).trans hrz);have BN:=hide (hnx.trans (BAL.mono hnx.size));rw [hwl] at HBX HRZ BN;have hszn:w.heap.size+2<=(wr.alloc (.cells #[.int .i64 p.1.area,.int .i64 p.1.kind,.int .i64 p.1.owner,.int .i64 p.1.key,.int .i64 p.1.seq,.slice pa p.1.near.length pc,.int .i64 p.1.cost,.bool p.1.far] 132)).heap.size:=by simp;omega
    clear hbx hrz HBO HPP HWT BAL hwl;go_wp2;go_roundw
    case rel=>exact ⟨k+1,F,b,_,by omega,by go_num,rfl,HBX.out,HRZ.out,HN,BN.out,hszn⟩
    case measure=>simp [intOf];omega
   have hdK:(p.1.kind != 2)=false:=by simpa using hK
   have HhK:=hide hK;clear hK;by_cases hA:p.1.area=area
   case neg=>
    have hd:(p.1.area != area)=true:=by simpa using hA
    have HhA:=hide hA;clear hA;have HN:=hide (Zbx HPP.out HBO.out (fun d hdt ht=>HhA.out ht.2.1));have HBX:=hide (hbx.below BAL);have HRZ:=hide ((BAL.block _ (by have:=Zab hrz;omega)).trans hrz);have BN:=hide (hnx.trans (BAL.mono hnx.size));rw [hwl] at HBX HRZ BN;have hszn:w.heap.size+2<=(wr.alloc (.cells #[.int .i64 p.1.area,.int .i64 p.1.kind,.int .i64 p.1.owner,.int .i64 p.1.key,.int .i64 p.1.seq,.slice pa p.1.near.length pc,.int .i64 p.1.cost,.bool p.1.far] 132)).heap.size:=by simp;omega
    clear hbx hrz HBO HPP HWT BAL hwl;go_wp2;go_roundw
    case rel=>exact ⟨k+1,F,b,_,by omega,by go_num,rfl,HBX.out,HRZ.out,HN,BN.out,hszn⟩
    case measure=>simp [intOf];omega
   have hdA:(p.1.area != area)=false:=by simpa using hA
   have HhA:=hide hA;clear hA;by_cases hY:p.1.key=to
   case neg=>
    have hd:(p.1.key != to)=true:=by simpa using hY
    have HhY:=hide hY;clear hY;have HN:=hide (Zbx HPP.out HBO.out (fun d hdt ht=>HhY.out (by obtain ⟨_,_,_,v,_,_,rfl⟩:=ht;exact hdt)));have HBX:=hide (hbx.below BAL);have HRZ:=hide ((BAL.block _ (by have:=Zab hrz;omega)).trans hrz);have BN:=hide (hnx.trans (BAL.mono hnx.size));rw [hwl] at HBX HRZ BN;have hszn:w.heap.size+2<=(wr.alloc (.cells #[.int .i64 p.1.area,.int .i64 p.1.kind,.int .i64 p.1.owner,.int .i64 p.1.key,.int .i64 p.1.seq,.slice pa p.1.near.length pc,.int .i64 p.1.cost,.bool p.1.far] 132)).heap.size:=by simp;omega
    clear hbx hrz HBO HPP HWT BAL hwl;go_wp2;go_roundw
    case rel=>exact ⟨k+1,F,b,_,by omega,by go_num,rfl,HBX.out,HRZ.out,HN,BN.out,hszn⟩
    case measure=>simp [intOf];omega
   have hdY:(p.1.key != to)=false:=by simpa using hY
   have HhY:=hide hY;clear hY;by_cases hO:p.1.owner=src
   case pos=>
    have hd:(p.1.owner==src)=true:=by simpa using hO
    have HhO:=hide hO;clear hO;have HN:=hide (Zbx HPP.out HBO.out (fun d hdt ht=>ht.2.2.1 HhO.out));have HBX:=hide (hbx.below BAL);have HRZ:=hide ((BAL.block _ (by have:=Zab hrz;omega)).trans hrz);have BN:=hide (hnx.trans (BAL.mono hnx.size));rw [hwl] at HBX HRZ BN;have hszn:w.heap.size+2<=(wr.alloc (.cells #[.int .i64 p.1.area,.int .i64 p.1.kind,.int .i64 p.1.owner,.int .i64 p.1.key,.int .i64 p.1.seq,.slice pa p.1.near.length pc,.int .i64 p.1.cost,.bool p.1.far] 132)).heap.size:=by simp;omega
    clear hbx hrz HBO HPP HWT BAL hwl;go_wp2;go_roundw
    case rel=>exact ⟨k+1,F,b,_,by omega,by go_num,rfl,HBX.out,HRZ.out,HN,BN.out,hszn⟩
    case measure=>simp [intOf];omega
   have hdO:(p.1.owner==src)=false:=by simpa using hO
   have HhO:=hide hO;clear hO;have hrb:=Zg2 hst hpm HhK.out;by_cases hC:60000<=p.1.cost
   case pos=>
    have HN:=hide (Zbx HPP.out HBO.out (fun d hdt ht=>by obtain ⟨_,_,_,v,h4,h5,_⟩:=ht;have:=((ZcD (fsts ps) area src).2 v (Za2 h4).1).1.cost;omega));have HBX:=hide (hbx.below BAL);have HRZ:=hide ((BAL.block _ (by have:=Zab hrz;omega)).trans hrz);have BN:=hide (hnx.trans (BAL.mono hnx.size));rw [hwl] at HBX HRZ BN;have hszn:w.heap.size+2<=(wr.alloc (.cells #[.int .i64 p.1.area,.int .i64 p.1.kind,.int .i64 p.1.owner,.int .i64 p.1.key,.int .i64 p.1.seq,.slice pa p.1.near.length pc,.int .i64 p.1.cost,.bool p.1.far] 132)).heap.size:=by simp;omega
    clear hbx hrz HBO HPP HWT BAL hwl;go_wp2;go_roundw
    case rel=>exact ⟨k+1,F,b,_,by omega,by go_num,rfl,HBX.out,HRZ.out,HN,BN.out,hszn⟩
    case measure=>simp [intOf];omega
   have hfd:=ZcZ (Zam ws) p.1.owner;rw [hws] at hfd;have HW:=HWT.out p.1.owner wl (hnx.trans (BAL.mono hnx.size));rw [hws] at HW;obtain⟨D,hD⟩:∃ D,D=ZbE (Zcd (fsts ps) area src) p.1.owner:=⟨_,rfl⟩;obtain⟨FB,hFB⟩:∃ F,F=Zbb (Zcd (fsts ps) area src) p.1.owner:=⟨_,rfl⟩;rw [<-hD, <-hFB] at HW hfd;have hx2:=Zaa hxl 2;simp at hx2;have HXL:=hide hxl;rw [hwl] at hx2;have HWW:=hide HW;have HFD:=hide hfd;have HBX:=hide (hbx.below BAL);have HRZ:=hide ((BAL.block _ (by have:=Zab hrz;omega)).trans hrz);have HBL:=hide BAL;have hsl:=BAL.size;unfold wayC at HWW;clear HW hfd hD hFB hbx hrz hxl BAL
   go_wp2_with fail
   rw [<-hwl];clear hwl hx2;refine HWW.out.mono ?_;rintro e w3 ⟨du,rfl,hdu,b3⟩;obtain⟨da,dc,rfl⟩:=Zac hdu;have hb3:=b3.size;have BW3:Below w.heap.size w w3:=hnx.trans ((HBL.out.mono hnx.size).trans (b3.mono (by have:=hnx.size;omega)));have hbx3:=HBX.out.below b3;have hrz3:=(b3.block _ (Zab HRZ.out)).trans HRZ.out;have hxl3:=(b3.block _ (Zab HXL.out)).trans HXL.out;have hwl3:=Zab HXL.out;have HBA:=hide (fun o=>hbx3.below ((YAB w3.heap.size w3).alloc (YA _) o));have HZA:=hide (fun o=>(((YAB w3.heap.size w3).alloc (YA _) o).block _ (Zab hrz3)).trans hrz3);have HWA:=hide (fun o=>BW3.trans (((YAB w3.heap.size w3).alloc (YA _) o).mono BW3.size));have HDA:=hide (fun o=>Zad hdu ((YAB w3.heap.size w3).alloc (YA _) o) (YA _));have HXA:=hide (fun o=>by
    have h:=Zaa ((((YAB w3.heap.size w3).alloc (YA _) o).block _ (Zab hxl3)).trans hxl3) 6;simp at h;exact h)
   have HB3:=hide hbx3;have HZ3:=hide hrz3;have HD3:=hide hdu;have HW3:=hide BW3;have hz3:w.heap.size<w3.heap.size:=Zab hbx3.box;have hzne:w.heap.size≠w3.heap.size:=by omega
   clear hdu b3 hbx3 hrz3 hxl3 HWW HBX HRZ HXL HBL BW3;cases FB
   ·have HN:=hide (Zbx HPP.out HBO.out (fun d hdt ht=>by
     obtain⟨_,_,_,v,h4,_⟩:=ht;rcases HFD.out with ⟨h1,_⟩ | ⟨_,h2⟩
     ·cases h1
     ·rw [h2] at h4;cases h4))
    have N1:=hide (HBA.out (.cells #[.int .i64 D.to,.int .i64 D.cost,.slice da D.hops.length dc] 144));have N2:=hide (HZA.out (.cells #[.int .i64 D.to,.int .i64 D.cost,.slice da D.hops.length dc] 144));have N3:=hide (HWA.out (.cells #[.int .i64 D.to,.int .i64 D.cost,.slice da D.hops.length dc] 144));have hszn:w.heap.size+2<=(w3.alloc (.cells #[.int .i64 D.to,.int .i64 D.cost,.slice da D.hops.length dc] 144)).heap.size:=by simp;omega
    clear HBA HZA HWA HDA HXA HBO HPP HFD HWT;go_wp2;go_roundw
    case rel=>exact ⟨k+1,F,b,_,by omega,by go_num,rfl,N1.out,N2.out,HN,N3.out,hszn⟩
    case measure=>simp [intOf];omega
   ·have hfound:ZaR (Zcd (fsts ps) area src) p.1.owner=some D:=by
     rcases HFD.out with ⟨_,h2⟩ | ⟨h1,_⟩
     ·exact h2
     ·cases h1
    have hDg:=(ZcD (fsts ps) area src).2 D (Za2 hfound).1;have hD0:=hDg.1.cost;have hD6:=hDg.1.len;have hDc:=hDg.2;have x1:=HXA.out (.cells #[.int .i64 D.to,.int .i64 D.cost,.slice da D.hops.length dc] 144);by_cases hsum:60000<=D.cost+p.1.cost
    ·have HN:=hide (Zbx HPP.out HBO.out (fun d hdt ht=>by
      obtain⟨_,_,_,v,h4,h5,_⟩:=ht;rw [hfound] at h4;cases h4;omega))
     have N1:=hide (HBA.out (.cells #[.int .i64 D.to,.int .i64 D.cost,.slice da D.hops.length dc] 144));have N2:=hide (HZA.out (.cells #[.int .i64 D.to,.int .i64 D.cost,.slice da D.hops.length dc] 144));have N3:=hide (HWA.out (.cells #[.int .i64 D.to,.int .i64 D.cost,.slice da D.hops.length dc] 144));have hszn:w.heap.size+2<=(w3.alloc (.cells #[.int .i64 D.to,.int .i64 D.cost,.slice da D.hops.length dc] 144)).heap.size:=by simp;omega
     clear HBA HZA HWA HDA HXA HBO HPP HFD HWT hfound hDg;go_wp2;go_roundw
     case rel=>exact ⟨k+1,F,b,_,by omega,by go_num,rfl,N1.out,N2.out,HN,N3.out,hszn⟩
     case measure=>simp [intOf];omega
    ·have htell:Zeg (fsts ps) area src p.1 ⟨to,D.cost+p.1.cost,D.hops⟩:=⟨HhK.out,HhA.out,HhO.out,D,hfound,by omega,by rw [HhY.out]⟩;have HBN:=hide (ZiV Ze8 hS0 HPP.out HBO.out htell rfl);have x2:=HXA.out (.cells #[.int .i64 to,.int .i64 D.cost,.slice da D.hops.length dc] 144);have N1:=HBA.out (.cells #[.int .i64 to,.int .i64 (D.cost+p.1.cost),.slice da D.hops.length dc] 144);have N2:=HZA.out (.cells #[.int .i64 to,.int .i64 (D.cost+p.1.cost),.slice da D.hops.length dc] 144);have N3:=HWA.out (.cells #[.int .i64 to,.int .i64 (D.cost+p.1.cost),.slice da D.hops.length dc] 144);have N4:=HDA.out (.cells #[.int .i64 to,.int .i64 (D.cost+p.1.cost),.slice da D.hops.length dc] 144);have hx4:=YAE w3 (.cells #[.int .i64 to,.int .i64 (D.cost+p.1.cost),.slice da D.hops.length dc] 144);have hs4:(w3.alloc (.cells #[.int .i64 to,.int .i64 (D.cost+p.1.cost),.slice da D.hops.length dc] 144)).heap.size=w3.heap.size+1:=by simp
     have hsm:D.cost+p.1.cost<60000:=by omega
     clear htell hfound hDg HFD HWT HPP HBO HBA HZA HWA HDA HXA hsum;have hzb:=N1.box;unfold wayC at hzb;have e0:=Zaa hzb 0;have e1:=Zaa hzb 1;have e2:=Zaa hzb 2;simp at e0 e1 e2;have fe:=Zae hzb;cases F
     ·have HN:=hide (show Zav to (fun d=>S0 d\/outS (fsts ps) ((fsts ps).take (k+1)) area src to d) (if true then some (⟨to,D.cost+p.1.cost,D.hops⟩:WayD) else none) from HBN.out);have P3:=(HB3.out.put (d:=⟨to,D.cost+p.1.cost,D.hops⟩) (Zaf (b0:=lo) HD3.out (by omega)) hD6);have B3:=HW3.out.grown (ZbH w3 w.heap.size ⟨to,D.cost+p.1.cost,D.hops⟩ (.slice da D.hops.length dc)) HW3.out.size (fun j hj=>by simp at hj;omega);have Z3:=Zea (z:=w.heap.size) (d:=⟨to,D.cost+p.1.cost,D.hops⟩) (u:=.slice da D.hops.length dc) HZ3.out (by omega);have M1:=hide (P3.below ((YAB _ _).alloc (YA _) (.cells #[.int .i64 to,.int .i64 (D.cost+p.1.cost),.slice da D.hops.length dc] 144)));have M2:=hide ((((YAB _ _).alloc (YA _) (.cells #[.int .i64 to,.int .i64 (D.cost+p.1.cost),.slice da D.hops.length dc] 144)).block _ (Zab Z3)).trans Z3);have M3:=hide (B3.trans (((YAB _ _).alloc (YA _) (.cells #[.int .i64 to,.int .i64 (D.cost+p.1.cost),.slice da D.hops.length dc] 144)).mono B3.size));have hszn:w.heap.size+2<=((ZbJ w3 w.heap.size ⟨to,D.cost+p.1.cost,D.hops⟩ (.slice da D.hops.length dc)).alloc (.cells #[.int .i64 to,.int .i64 (D.cost+p.1.cost),.slice da D.hops.length dc] 144)).heap.size:=by simp;omega
      have hzb3:=HB3.out.box;unfold wayC at hzb3;clear e0 e1 e2 fe;have e0:=Zaa hzb3 0;have e1:=Zaa hzb3 1;have e2:=Zaa hzb3 2;simp at e0 e1 e2;have fe:=Zae hzb3;clear N1 N2 N3 N4 HBN hzb hx4 P3 B3 Z3 HB3 HZ3 HD3 HW3 hzb3 hs4;go_wp2;go_roundw
      case rel=>exact ⟨k+1,true,⟨to,D.cost+p.1.cost,D.hops⟩,_,by omega,by go_num,rfl,M1.out,M2.out,HN,M3.out,hszn⟩
      case measure=>simp [intOf];omega
     ·have HTG:=Zj8 b ⟨to,D.cost+p.1.cost,D.hops⟩ (.slice ba b.hops.length bc) (.slice da D.hops.length dc) lo wl.heap.size _ N1.own N4 (by have:=N1.len;omega) (by show D.hops.length<=1048576;omega);unfold wayC at HTG;simp only [] at HTG;obtain⟨E,hE⟩:∃ E,E=togD b ⟨to,D.cost+p.1.cost,D.hops⟩:=⟨_,rfl⟩;rw [<-hE] at HTG;have hE6:E.hops.length<=6:=by rw [hE];exact Zmt N1.len hD6 (by omega)
      have HN:=hide (show Zav to (fun d=>S0 d\/outS (fsts ps) ((fsts ps).take (k+1)) area src to d) (if true then some E else none) by
       have h:=HBN.out;rw [hE];exact h)
      have HT:=hide HTG;clear HB3 HZ3 HD3 HW3;have HN1:=hide N1;have HN2:=hide N2;have HN3:=hide N3;have HX4:=hide hx4;clear HTG HBN hE N1 N2 N3 N4 hzb hx4
      go_wp2_with fail
      refine HT.out.mono ?_;rintro e w5 ⟨eu,rfl,heu,b5⟩;obtain⟨ea,ec,rfl⟩:=Zac heu;have hb5:=b5.size;have hx5:=(b5.block _ (Zab HX4.out)).trans HX4.out;have hbx5:=HN1.out.below b5;have hrz5:=(b5.block _ (Zab HN2.out)).trans HN2.out;have B5:Below w.heap.size w w5:=HN3.out.trans (b5.mono HN3.out.size);have hzb5:=hbx5.box;unfold wayC at hzb5;clear e0 e1 e2 fe x1 x2;have d0:=Zaa hx5 0;have d1:=Zaa hx5 1;have d2:=Zaa hx5 2;simp at d0 d1 d2;have e0:=Zaa hzb5 0;have e1:=Zaa hzb5 1;have e2:=Zaa hzb5 2;simp at e0 e1 e2;have fd:=Zae hx5;have fe:=Zae hzb5;have hg14:=ZbH w5 w3.heap.size E (.slice ea E.hops.length ec);have heu2:(ZbJ w5 w3.heap.size E (.slice ea E.hops.length ec)).ownsRow lo 3 1 (.slice ea E.hops.length ec) E.hops.length (flat intE E.hops):=Zaf (ZgY heu hg14 (by rw [hs4];omega)) (by rw [hs4];omega);have M1:=hide ((hbx5.other hg14 (by omega) hx5 (by decide)).put heu2 hE6);have M2:=hide (Zea (z:=w.heap.size) (d:=E) (u:=.slice ea E.hops.length ec) (Zea (z:=w3.heap.size) (d:=E) (u:=.slice ea E.hops.length ec) hrz5 (by omega)) (by omega));have M3:=hide ((B5.grown hg14 B5.size (fun j hj=>by simp at hj;omega)).grown (ZbH _ w.heap.size E (.slice ea E.hops.length ec)) (by have:=hg14.size;omega) (fun j hj=>by simp at hj;omega));have hszn:w.heap.size+2<=(ZbJ (ZbJ w5 w3.heap.size E (.slice ea E.hops.length ec)) w.heap.size E (.slice ea E.hops.length ec)).heap.size:=by rw [hs4] at hb5;simp;omega
      clear HN1 HN2 HN3 HX4 HT hx5 hbx5 hrz5 hzb5 heu b5 hg14 heu2 B5 hs4 hb5;go_wp2;go_roundw
      case rel=>exact ⟨k+1,true,E,_,by omega,by go_num,rfl,M1.out,M2.out,HN,M3.out,hszn⟩
      case measure=>simp [intOf];omega
  ·have hkn:¬(k:Int)<(ps.length:Int):=by omega
   have HBF:=hide (show Zav to (fun d=>S0 d\/outS (fsts ps) (fsts ps) area src to d) (if F then some b else none) by
    have h:=HBO.out;rw [YAc (by simp [fsts];omega)] at h;exact h)
   have hzb:=hbx.box;unfold wayC at hzb;have e0:=Zaa hzb 0;have e1:=Zaa hzb 1;have e2:=Zaa hzb 2;simp at e0 e1 e2;have y0:=Zaa hrz 0;have y1:=Zaa hrz 1;have y2:=Zaa hrz 2;simp at y0 y1 y2;have fy:=Zae hrz;have FF:=hide (Zid b (.slice ba b.hops.length bc) hrz);have hg:=ZbH wr (w.heap.size+1) b (.slice ba b.hops.length bc);have hbx2:=hbx.other hg (by omega) hrz (by decide);have HO:=hide hbx2.own;have HL:=hide hbx2.len;have HB:=hide (hnx.grown hg hnx.size (fun j hj=>by simp at hj;omega));clear hbx hrz hbx2 hg hzb HBO
   go_wp2_with fail
   (try simp only [Exit.inBlock,Exit.then])
   refine bodyPost_ret (ZaC rfl _ _ (w.heap.size+1) 144 (wayC b (.slice ba b.hops.length bc)) (0,0) _ rfl FF.out Tryz.underlying144 rfl (by kernel_rfl)) rfl ?_;exact⟨b,_,.bool F,rfl,Zfk.of HBF.out,HO.out,HL.out,HB.out⟩
theorem Zef (v u:Value)(ps:List RP)(al:List Int)(hi:Nat)(src:Int)(w:World)(hv:RecsIn w hi v ps)(ha:Zal w u al hi)(hhi:hi<=w.heap.size)(hn:tot ps<=1048576)(hal:al.length<=1048576):
  Calls Tryz.prog 84 #[v,u,.int .i64 src] w fun e w'=>∃ x qs,e=.returned x/\ZaA (ZaI (fsts ps) al src) (Zam qs)/\WaysOwn w' w.heap.size w'.heap.size x qs/\Below w.heap.size w w':=by
 obtain⟨a1,c1,rfl⟩:=Zac hv.row;obtain⟨a2,c2,rfl⟩:=ha.shape;have LIT:=ZhR w w.heap.size (YA _);have hs1:(w.alloc (.cells #[] 144)).heap.size=w.heap.size+1:=by simp
 have B1:Below w.heap.size w (w.alloc (.cells #[] 144)):=(YAB _ _).alloc (YA _) _;obtain⟨w1,hw1⟩:∃ W,W=w.alloc (.cells #[] 144):=⟨_,rfl⟩;rw [<-hw1] at LIT hs1 B1;have LS:=ZmC w1 w1.heap.size (YA _);have B0:Below w1.heap.size w1 (w1.alloc (.cells #[] 139)):=(YAB _ _).alloc (YA _) _;obtain⟨w0,hw0⟩:∃ W,W=w1.alloc (.cells #[] 139):=⟨_,rfl⟩;rw [<-hw0] at LS B0;have HWI:=hide (fun area W (hb:Below w.heap.size w W)=>Zee (.slice a1 ps.length c1) ps hi area src W (hv.below hb hhi) (YAG hhi hb.size) hn);have HA:=hide ha;clear hv ha;have HLIT:=hide LIT;have HLS:=hide LS;clear LIT LS;have HS1:=hide hs1;clear hs1
 go_enter Tryz.func84,Tryz.ntmps84
 go_wp2;rw [<-hw1, <-hw0,show w.heap.size+1=w1.heap.size from HS1.out.symm];clear hw1 hw0
 go_loopw [9,8] (fun i o wr=>∃ (k:Nat) (y:Value) (ls:List LP),k<=al.length/\i=.int .i64 (k:Int)/\o=y/\WLs wr w1.heap.size wr.heap.size y ls/\Hid (Zbp (fsts ps) src (al.take k) ls)/\Below w1.heap.size w1 wr) (fun i _ _=>al.length-(intOf i).toNat)
 case atStart=>exact ⟨0,_,[],by omega,rfl,rfl,HLS.out,hide (by simp [Zbp]),B0⟩
 case round=>
  obtain⟨k,y,ls,hk,rfl,rfl,hls,HAW,hnx⟩:=hrel;clear HLS B0;obtain⟨ya,yc,rfl⟩:=Zac hls.row;have hlen:ls.length=k:=by have:=HAW.out.len;rw [List.length_take,Nat.min_eq_left hk] at this;exact this
  have BW:Below w.heap.size w wr:=B1.trans (hnx.mono B1.size);have hws:=BW.size;by_cases hlt:k<al.length
  ·obtain ⟨area,har⟩:∃ a,al[k]? = some a:=⟨al[k],YAA hlt⟩;obtain⟨b,off,cap',hve,hbb,c0⟩:=HA.out.cell k area har;cases hve;replace c0:=(BW.cell (by show b<w.heap.size;omega)).trans c0;have hki:(0:Int)<=(k:Int):=by omega
   have hkj:(k:Int)<(al.length:Int):=by omega
   have HLS:=hide hls;have HAR:=hide har;have HLEN:=hide hlen;clear hls har hlen
   go_wp2_with fail
   refine (HWI.out area _ BW).mono ?_;rintro e w2 ⟨uw,ws,rfl,hws2,how,b2⟩;obtain⟨wsa,wsc,rfl⟩:=Zac how.row;have hb2:=b2.size;have HWE:=hide (hws2.eq);have BA:Below w2.heap.size w2 (w2.alloc (.cells #[.slice wsa ws.length wsc] 139)):=(YAB _ _).alloc (YA _) _;have OWA:=hide ((Zad HLS.out.row b2 (YA _)).alloc (.cells #[.slice wsa ws.length wsc] 139));have HOW:=hide how;clear hws2 how
   go_wp2_with (first
    | (at_builtin;refine ZaG ZfN (by omega) (by omega) _ rfl _ _ 164 rfl w1.heap.size 139 Tryz.underlying164 (.slice none 0 0) rfl Tryz.infoWayS _ ls (.slice wsa ws.length wsc,ws) (fun q hq=>by simp [Zhr] at hq;subst hq;rfl) rfl OWA.out ⟨w2.heap.size,0,none⟩ 1 rfl (Zak (cs:=Zhr (.slice wsa ws.length wsc,ws))) (by have:=HLEN.out;omega) (by simp;have:=hnx.size;omega) ?_))
   intro v' w4 hown' hgrow hat;have BB:Below wr.heap.size wr (w2.alloc (.cells #[.slice wsa ws.length wsc] 139)):=b2.trans (BA.mono hb2);have N1:=hide (HLS.out.push BB ((HOW.out.below BA (YA _)).wide hnx.size BA.size) (by simpa using hown') hgrow);have N2:=hide (HAW.out.push (p:=(.slice wsa ws.length wsc,ws)) HAR.out HWE.out);have N3:=hide ((hnx.trans (BB.mono hnx.size)).grown hgrow (by have:=BB.size;have:=hnx.size;omega) (fun j hj=>(HLS.out.row.lt j hj).1));obtain⟨va,vc,rfl⟩:=Zac hown';clear hown' hgrow hat BB OWA HOW HLS BA b2;go_wp2;go_roundw
   case rel=>exact ⟨k+1,_,ls++[(.slice wsa ws.length wsc,ws)],by omega,by go_num,rfl,N1.out,N2,N3.out⟩
   case measure=>simp [intOf];omega
  ·have hkn:¬(k:Int)<(al.length:Int):=by omega
   have HAL:=hide (show Zbp (fsts ps) src al ls by have h:=HAW.out;rw [YAc (by omega)] at h;exact h);have HO:=hide ((HLIT.out.below hnx (YA _)).wide (YA _) hnx.size);have HLS:=hide hls
   rename World=>wb
   have hwb:=hnx.size;clear hls HAW hlen HLIT hnx;go_wp2
   go_loopw [10,7] (fun i o wr=>∃ (t:Nat) (x:Value) (qs:List WP),1<=t/\t<=7/\i=.int .i64 (t:Int)/\o=x/\WaysOwn wr w.heap.size wr.heap.size x qs/\Hid (ZaA (fun to d=>to<(t:Int)/\ZaI (fsts ps) al src to d) (Zam qs))/\Off x w1.heap.size wb.heap.size/\WLs wr w1.heap.size wb.heap.size (.slice ya ls.length yc) ls/\Below w.heap.size w wr/\wb.heap.size<=wr.heap.size) (fun i _ _=>8-(intOf i).toNat)
   case atStart=>exact ⟨1,_,[],by omega,by omega,rfl,rfl,HO.out,hide (Zc9 (fun to d ⟨h1,h2⟩=>by have h3:=(ZaL h2);have:=h3.1.node;rw [h3.2] at this;omega)),fun b hb=>by simp [Value.ownBlock] at hb;have:=HS1.out;omega,HLS.out,BW,YA _⟩
   case round=>
    obtain⟨t,x,qs,ht1,ht7,rfl,rfl,hown,HB,hoff,hls,hnx,hsz⟩:=hrel;clear HO HLS BW hws;obtain⟨xa,xc,rfl⟩:=Zac hown.row
    rename World=>wt
    by_cases ht:t<=6
    ·have ht6:(t:Int)<=6:=by omega
     have HOWN:=hide hown;have HLS:=hide hls;have HOFF:=hide hoff;have hq6:qs.length<=6:=by
      have h:=ZeJ HB.out.1 (fun d hd=>(HB.out.good (fun to d h=>ZaL h.2) d hd).node);simpa [Zam] using h
     have BXZ:BoxSt wt (wt.alloc (.cells #[.int .i64 0,.int .i64 0,.slice none 0 0] 144)) wt.heap.size Zce (.slice none 0 0):=⟨YAE _ _,YAj _ _ _ _,(YAB _ _).alloc (YA _) _,by simp [Zce]⟩;obtain⟨wz,hwz⟩:∃ W,W=wt.alloc (.cells #[.int .i64 0,.int .i64 0,.slice none 0 0] 144):=⟨_,rfl⟩;rw [<-hwz] at BXZ;have HBX:=hide BXZ;clear hown hls hoff BXZ;go_wp2;rw [<-hwz];clear hwz
     go_loopw [13,12] (fun i f wr=>∃ (k:Nat) (F:Bool) (b:WayD) (bv:Value),k<=al.length/\i=.int .i64 (k:Int)/\f=.bool F/\BoxSt wt wr wt.heap.size b bv/\Hid (Zav (t:Int) (ZaI (fsts ps) (al.take k) src (t:Int)) (if F then some b else none))) (fun i _ _=>al.length-(intOf i).toNat)
     case atStart=>exact ⟨0,false,_,_,by omega,rfl,rfl,HBX.out,hide (fun d ⟨_,a,h,_⟩=>by simp at h)⟩
     case round=>
      obtain⟨k,F,b,bv,hk,rfl,rfl,hbx,HBO⟩:=hrel;clear HBX;have BWR:Below w.heap.size w wr:=hnx.trans (hbx.bel.mono hnx.size);have hzlt:=Zab hbx.box;obtain⟨bva,bvc,rfl⟩:=Zac hbx.own;by_cases hlt:k<al.length
      ·obtain ⟨area,har⟩:∃ a,al[k]? = some a:=⟨al[k],YAA hlt⟩;obtain⟨p,hp,hpw⟩:=HAL.out.at har;have hls2:=HLS.out.below hbx.bel hsz;obtain⟨g,cap',hve,cg,hgb,hgw⟩:=hls2.cell hp;cases hve;have hpo:=hls2.ways p (YAF hp);obtain⟨pa,pc,hpn⟩:=Zac hpo.row;rw [hpn] at cg;have hki:(0:Int)<=(k:Int):=by omega
       have hkj:(k:Int)<(al.length:Int):=by omega
       have hkl:(k:Int)<(ls.length:Int):=by rw [HAL.out.len];omega
       have HWT:=ZbY p.1 p.2 w1.heap.size wb.heap.size (t:Int) wr hpo (by omega) (by have:=ZhS hpw;omega);rw [hpn] at HWT;have HBN:=hide (ZiU Ze8 har HBO.out);rw [<-hpw] at HBN;have hfd:=ZcZ (Zam p.2) (t:Int);obtain⟨D,hD⟩:∃ D,D=ZbE (Zam p.2) (t:Int):=⟨_,rfl⟩;obtain⟨FB,hFB⟩:∃ F,F=Zbb (Zam p.2) (t:Int):=⟨_,rfl⟩;rw [<-hD, <-hFB] at HWT hfd;have hD6:D.hops.length<=6:=by
        rcases hfd with ⟨_,h2⟩ | ⟨h1,h2⟩
        ·have hm:=(Za2 h2).1;rw [hpw] at hm;exact ((ZcD (fsts ps) area src).2 D hm).1.len
        ·rw [hD];unfold ZbE;unfold ZaR at h2;rw [h2];simp [Zce]
       have HW:=hide HWT;have HFD:=hide hfd;have HBX:=hide hbx;unfold wayC at HW;clear HWT hfd hbx hls2 hpo hp hpw hpn har hD hFB
       go_wp2_with fail
       refine HW.out.mono ?_;rintro e w3 ⟨du,rfl,hdu,b3⟩;obtain⟨da,dc,rfl⟩:=Zac hdu;have hb3:=b3.size;have hbx3:=HBX.out.below b3;have BA:Below w3.heap.size w3 (w3.alloc (.cells #[.int .i64 D.to,.int .i64 D.cost,.slice da D.hops.length dc] 144)):=(YAB _ _).alloc (YA _) _;have hx4:=YAE w3 (.cells #[.int .i64 D.to,.int .i64 D.cost,.slice da D.hops.length dc] 144);obtain⟨w4,hw4⟩:∃ W,W=w3.alloc (.cells #[.int .i64 D.to,.int .i64 D.cost,.slice da D.hops.length dc] 144):=⟨_,rfl⟩;rw [<-hw4] at BA hx4;have hbx4:=hbx3.below BA;have hdu4:=Zad hdu BA (YA _);have hs4:=BA.size;have hl4:=Zab hx4;have d0:=Zaa hx4 0;have d1:=Zaa hx4 1;have d2:=Zaa hx4 2;simp at d0 d1 d2;have hzb:=hbx4.box;unfold wayC at hzb;have e0:=Zaa hzb 0;have e1:=Zaa hzb 1;have e2:=Zaa hzb 2;simp at e0 e1 e2;have fd:=Zae hx4;have fe:=Zae hzb;have HX4:=hide hx4;have HDU:=hide hdu4;have HB4:=hide hbx4;have hlast:Below w3.heap.size w3 w4:=BA;clear hdu b3 hbx3 hbx4 hdu4 hx4 hzb BA HBX HW;cases FB
       ·have HN:=hide (show Zav (t:Int) (ZaI (fsts ps) (al.take (k+1)) src (t:Int)) (if F then some b else none) by
         have h:=HBN.out;rcases HFD.out with ⟨h1,_⟩ | ⟨_,h2⟩
         ·cases h1
         ·rw [h2] at h;exact h)
        rw [hw4] at HB4;clear HX4 HDU HBN HFD hw4 d0 d1 d2 e0 e1 e2 fd fe hlast;go_wp2;go_roundw
        case rel=>exact ⟨k+1,F,b,_,by omega,by go_num,rfl,HB4.out,HN⟩
        case measure=>simp [intOf];omega
       ·have hfound:ZaR (Zam p.2) (t:Int)=some D:=by
         rcases HFD.out with ⟨_,h2⟩ | ⟨h1,_⟩
         ·exact h2
         ·cases h1
        cases F
        ·have HN:=hide (show Zav (t:Int) (ZaI (fsts ps) (al.take (k+1)) src (t:Int)) (if true then some D else none) by
          have h:=HBN.out;rw [hfound] at h;exact h)
         have HF:=hide (HB4.out.put rfl (Zaf (b0:=wt.heap.size+1) HDU.out (by omega)) hD6);rw [hw4] at HF d0 d1 d2 e0 e1 e2 fd fe;clear HX4 HDU HBN HFD HB4 hw4 hfound hlast;go_wp2;go_roundw
         case rel=>exact ⟨k+1,true,D,_,by omega,by go_num,rfl,HF.out,HN⟩
         case measure=>simp [intOf];omega
        ·have HTG:=Zj8 b D (.slice bva b.hops.length bvc) (.slice da D.hops.length dc) wt.heap.size wr.heap.size w4 HB4.out.own HDU.out (by have:=HB4.out.len;omega) (by omega);unfold wayC at HTG;obtain⟨E,hE⟩:∃ E,E=togD b D:=⟨_,rfl⟩;rw [<-hE] at HTG;have hE6:E.hops.length<=6:=by rw [hE];exact Zmt HB4.out.len hD6 (by omega)
         have HN:=hide (show Zav (t:Int) (ZaI (fsts ps) (al.take (k+1)) src (t:Int)) (if true then some E else none) by
          have h:=HBN.out;rw [hfound] at h;rw [hE];exact h)
         have HT:=hide HTG;rw [hw4] at d0 d1 d2 e0 e1 e2 fd fe;clear HTG HBN HFD hfound hE HDU
         go_wp2_with fail
         rw [<-hw4];refine HT.out.mono ?_;rintro e w5 ⟨eu,rfl,heu,b5⟩;obtain⟨ea,ec,rfl⟩:=Zac heu;have hb5:=b5.size;have hx5:=(b5.block _ hl4).trans HX4.out;have hbx5:=HB4.out.below b5;have hzb5:=hbx5.box;unfold wayC at hzb5;clear d0 d1 d2 e0 e1 e2 fd fe;have d0:=Zaa hx5 0;have d1:=Zaa hx5 1;have d2:=Zaa hx5 2;simp at d0 d1 d2;have e0:=Zaa hzb5 0;have e1:=Zaa hzb5 1;have e2:=Zaa hzb5 2;simp at e0 e1 e2;have fd:=Zae hx5;have fe:=Zae hzb5;have hg14:=ZbH w5 w3.heap.size E (.slice ea E.hops.length ec);have HF:=hide ((hbx5.other hg14 (by omega) hx5 rfl).put rfl (Zaf (b0:=wt.heap.size+1) (ZgY heu hg14 (by omega)) (by omega)) hE6);have hne:wt.heap.size≠w3.heap.size:=by omega
         clear HX4 HB4 HT hx5 hbx5 hzb5 heu b5 hg14 hw4 hlast;go_wp2;go_roundw
         case rel=>exact ⟨k+1,true,E,_,by omega,by go_num,rfl,HF.out,HN⟩
         case measure=>simp [intOf];omega
      ·have hkn:¬(k:Int)<(al.length:Int):=by omega
       have HBT:=hide (show Zav (t:Int) (ZaI (fsts ps) al src (t:Int)) (if F then some b else none) by
        have h:=HBO.out;rw [YAc (by omega)] at h;exact h)
       cases F
       ·have N1:=hide ((HOWN.out.below hbx.bel (YA _)).wide (YA _) hbx.bel.size);have N2:=hide (show ZaA (fun to d=>to<((t+1:Nat):Int)/\ZaI (fsts ps) al src to d) (Zam qs) from by
         have h:=HB.out.skip HBT.out;rw [show ((t+1:Nat):Int)=(t:Int)+1 by omega];exact h)
        have N3:=hide (HLS.out.below hbx.bel hsz);have hszr:wb.heap.size<=wr.heap.size:=by have:=hbx.bel.size;omega
        clear hbx HBO HBT;go_wp2;go_roundw
        case rel=>exact ⟨t+1,_,qs,by omega,by omega,by go_num,rfl,N1.out,N2,HOFF.out,N3.out,BWR,hszr⟩
        case measure=>simp [intOf];omega
       ·have hzb:=hbx.box;unfold wayC at hzb;have e0:=Zaa hzb 0;have e1:=Zaa hzb 1;have e2:=Zaa hzb 2;simp at e0 e1 e2;have N2:=hide (show ZaA (fun to d=>to<((t+1:Nat):Int)/\ZaI (fsts ps) al src to d) (Zam (qs++[(b,.slice bva b.hops.length bvc)])) from by
         have h:=HB.out.push HBT.out;rw [show ((t+1:Nat):Int)=(t:Int)+1 by omega];have e:Zam (qs++[(b,.slice bva b.hops.length bvc)])=Zam qs++[b]:=by simp [Zam]
         rw [e];exact h)
        have BA:Below wr.heap.size wr (wr.alloc (.cells #[.int .i64 b.to,.int .i64 b.cost,.slice bva b.hops.length bvc] 144)):=(YAB _ _).alloc (YA _) _;have BT:Below wt.heap.size wt (wr.alloc (.cells #[.int .i64 b.to,.int .i64 b.cost,.slice bva b.hops.length bvc] 144)):=hbx.bel.trans (BA.mono (by omega));have OW:=hide ((Zad HOWN.out.row hbx.bel (YA _)).alloc (.cells #[.int .i64 b.to,.int .i64 b.cost,.slice bva b.hops.length bvc] 144));have HHO:=hide (show Zch (wr.alloc (.cells #[.int .i64 b.to,.int .i64 b.cost,.slice bva b.hops.length bvc] 144)) wt.heap.size (wr.alloc (.cells #[.int .i64 b.to,.int .i64 b.cost,.slice bva b.hops.length bvc] 144)).heap.size (b,.slice bva b.hops.length bvc) from ⟨hbx.own.alloc _,fun k hk=>((hbx.own.alloc _).lt k hk).2⟩);have HLS2:=hide (HLS.out.below BT hsz);have hws:=hnx.size;clear hbx HBO HBT hzb
        go_wp2_with (first
         | (at_builtin;refine ZaG Zeo (by omega) (by omega) _ rfl _ _ 139 rfl w.heap.size 144 Tryz.underlying139 (.agg (wayC Zce (.slice none 0 0))) rfl Tryz.infoWay _ qs (b,.slice bva b.hops.length bvc) (Zhu _ _ _ _) rfl OW.out ⟨wr.heap.size,0,none⟩ 1 rfl (Zak (cs:=encW (b,.slice bva b.hops.length bvc))) (by omega) (by simp;omega) ?_))
        intro v' w6 hown' hgrow hat;have N1:=hide (HOWN.out.push BT hws HHO.out (by simpa using hown') hgrow);have N3:=hide (HLS2.out.keep (HOFF.out.kept hgrow));have N4:=hide ((hnx.trans (BT.mono hws)).grown hgrow (by have:=BT.size;omega) (fun j hj=>(HOWN.out.row.lt j hj).1));have N5:=hide (HOFF.out.next (x':=v') (B:=wb.heap.size) (fun j hj=>by
         rcases hat with h1 | h1
         ·exact .inl (by rw [<-h1];exact hj)
         ·right;rw [h1] at hj;simp at hj;omega) (YA _))
        have hszr:wb.heap.size<=w6.heap.size:=by have:=BT.size;have:=hgrow.size;omega
        obtain⟨va,vc,rfl⟩:=Zac hown';clear hown' hgrow hat BT OW HHO HLS2 BA;go_wp2;go_roundw
        case rel=>exact ⟨t+1,_,qs++[(b,.slice bva b.hops.length bvc)],by omega,by omega,by go_num,rfl,N1.out,N2,N5.out,N3.out,N4.out,hszr⟩
        case measure=>simp [intOf];omega
    ·have ht6:¬(t:Int)<=6:=by omega
     have htt:(t:Int)=7:=by omega
     have HE:=hide (show ZaA (ZaI (fsts ps) al src) (Zam qs) from HB.out.congr (fun to d=>⟨fun h=>h.2,fun h=>⟨by have h3:=ZaL h;have:=h3.1.node;rw [h3.2] at this;omega,h⟩⟩));have HO:=hide hown;have HN:=hide hnx;clear hown hnx HB hoff hls htt;go_wp2;go_ret
     first
      | exact ⟨_,qs,rfl,HE.out,HO.out,HN.out⟩
      | exact ⟨_,rfl,qs,HE.out,HO.out,HN.out⟩
def ZhF (far:Bool)(c d:Int):Int:=if far then 4000000000000+c*1000000+d else 3000000000000+(c+d)
def rtOf (d:WayD):RtD:=if d.cost<4000000000000 then ⟨true,d.to,3,d.cost-3000000000000,0,d.hops⟩ else ⟨true,d.to,4,(d.cost-4000000000000)%1000000,(d.cost-4000000000000) / 1000000,d.hops⟩
def Zcw (ds es:List WayD)(src o:Int):Option WayD:=if o=src then some ⟨src,0,[]⟩ else ZaR (ds++es) o
theorem Zb9 (ds es:List WayD)(o:Int):ZaR (ds++es) o=(ZaR ds o).or (ZaR es o):=by unfold ZaR;rw [List.find?_append]
def ZbN (ds es:List WayD)(src:Int)(r:RecD)(d:WayD):Prop:=r.kind=3/\r.cost<60000/\∃ v,Zcw ds es src r.owner=some v/\d=⟨r.key,ZhF r.far r.cost v.cost,v.hops⟩
theorem Ziq {e:WayD}(h:ZbN ds es src r d)(h':ZbN ds es src r e):d=e:=by
 obtain⟨_,_,v,h3,rfl⟩:=h;obtain⟨_,_,v',h3',rfl⟩:=h';rw [h3] at h3';cases h3';rfl
structure GoodT (d:WayD):Prop where
 node:1<=d.to/\d.to<=9
 rank:(3000000000000<=d.cost/\d.cost<=3000000061000)\/∃ c k:Int,0<=c/\c<=1000/\0<=k/\k<=60000/\d.cost=4000000000000+c*1000000+k
 asc:d.hops.Pairwise (· < ·)
 hop6:Hop6 d.hops
theorem GoodT.len (h:GoodT d):d.hops.length<=6:=ZdK h.asc h.hop6
def Zeh (ds:List WayD):Prop:=∀ d∈ds,GoodW d
theorem Zd8 {o:Int}{v:WayD}(hd:Zeh ds)(he:Zeh es)(h:Zcw ds es src o=some v):(0<=v.cost/\v.cost<=60000)/\v.hops.Pairwise (· < ·)/\Hop6 v.hops:=by
 unfold Zcw at h
 split at h
 ·cases h;exact⟨⟨by simp,by simp⟩,by simp,fun z hz=>by simp at hz⟩
 ·have hm:=(Za2 h).1;have hg:GoodW v:=by
   rcases YAH.1 hm with h1 | h1
   ·exact hd v h1
   ·exact he v h1
  exact⟨hg.cost,hg.asc,hg.hop6⟩
theorem Zf8 (hs:ZaN xs=true)(hr:r∈xs)(hk:r.kind=3)(hc:r.cost<60000):(1<=r.key/\r.key<=9)/\(1<=r.cost/\r.cost<=1000):=by
 unfold ZaN at hs;simp only [YAO] at hs;have hok:=Zdo hs.1.2 hr;unfold Za7 at hok;rw [if_neg (by omega),if_neg (by omega),if_pos hk] at hok;simp only [YAO,Bool.or_eq_true,inB,YAk,beq_iff_eq] at hok;omega
theorem Zdc (hs:ZaN xs=true)(hr:r∈xs)(hd:Zeh ds)(he:Zeh es)(h:ZbN ds es src r d):GoodT d:=by
 obtain⟨h1,h2,v,h3,rfl⟩:=h;have hg:=Zd8 hd he h3;have hb:=Zf8 hs hr h1 h2;refine⟨hb.1,?_,hg.2.1,hg.2.2⟩;show (3000000000000<=ZhF r.far r.cost v.cost/\ZhF r.far r.cost v.cost<=3000000061000)\/∃ c k:Int,0<=c/\c<=1000/\0<=k/\k<=60000/\ZhF r.far r.cost v.cost=4000000000000+c*1000000+k;unfold ZhF;cases r.far
 ·left;rw [if_neg (by simp)];omega
 ·right;rw [if_pos rfl];exact⟨r.cost,v.cost,by omega,by omega,by omega,by omega,rfl⟩
def Zdl (xs:List RecD)(ds es:List WayD)(src to:Int)(d:WayD):Prop:=d.to=to/\∃ r∈xs,ZbN ds es src r d
theorem Zb5 (hs:ZaN xs=true)(hd:Zeh ds)(he:Zeh es)(h:Zdl xs ds es src to d):GoodT d/\d.to=to:=by
 obtain⟨h1,r,hr,h2⟩:=h;exact⟨Zdc hs hr hd he h2,h1⟩
theorem ZaA.putT {tog:WayD->WayD->WayD}(ht:ZiP tog){S:Int->WayD->Prop}(h:ZaA S ds)(hS:∀ to w,S to w->Hop6 w.hops)(hasc:w.hops.Pairwise (· < ·))(h6:Hop6 w.hops)(he:AscW es)(hf:∀ to,ZaR es to=if to=w.to then ZeZ tog (ZaR ds to) (some w) else ZaR ds to):ZaA (fun to d=>S to d\/(d=w/\w.to=to)) es:=by
 refine⟨he,fun to=>?_⟩;rw [hf];by_cases e:to=w.to
 ·rw [if_pos e];refine ((h.2 to).add ht (fun v hv=>hS to v hv) e.symm hasc h6).congr (fun x=>?_);constructor
  ·rintro (h1 | h1)
   ·exact .inl h1
   ·exact .inr ⟨h1,e.symm⟩
  ·rintro (h1 | h1)
   ·exact .inl h1
   ·exact .inr h1.1
 ·rw [if_neg e];refine (h.2 to).congr (fun x=>⟨.inl,?_⟩);rintro (h1 | h1)
  ·exact h1
  ·exact absurd h1.2.symm e
theorem Zav.goodT {b:WayD}(h:Zav to S (some b))(hS:∀ w,S w->GoodT w/\w.to=to):GoodT b:=by
 have h6:=h.hop6 (fun w hw=>(hS w hw).1.hop6);obtain⟨h1,⟨u,hu,e1⟩,h3,h4,h5⟩:=h;have hg:=hS u hu;exact⟨by rw [h1, <-hg.2];exact hg.1.node,by rw [<-e1];exact hg.1.rank,h4,h6⟩
theorem ZaA.goodT {S:Int->WayD->Prop}(h:ZaA S ds)(hS:∀ to w,S to w->GoodT w/\w.to=to):∀ w∈ds,GoodT w:=by
 intro w hw;have h1:=h.2 w.to;rw [Zc6 h.1 hw] at h1;exact h1.goodT (hS w.to)
theorem Zh1 :∀ {l:List Int}{a:Int},l.Pairwise (· < ·)->(∀ z∈l,a<=z/\z<=9)->(l.length:Int)<=10-a\/l=[]
 | [],_,_,_=>.inr rfl
 | x::xs,a,h,hr=>by
  have h':=YAh.1 h;have hx:=hr x (by simp);rcases Zh1 (a:=x+1) h'.2 (fun z hz=>⟨by have:=h'.1 z hz;omega,(hr z (by simp [hz])).2⟩) with h1 | h1
  ·left;simp;omega
  ·left;subst h1;simp;omega
theorem Zg8 (h:AscW ds)(hg:∀ w∈ds,1<=w.to/\w.to<=9):ds.length<=9:=by
 have h1:(ds.map (·.to)).Pairwise (· < ·):=by rw [YAY];exact h
 rcases Zh1 (a:=1) h1 (fun z hz=>by
  obtain⟨w,hw,rfl⟩:=YAV.1 hz;exact hg w hw) with h2 | h2
 ·simp at h2;omega
 ·have:ds=[]:=by simpa using h2
  subst this;simp
def Zdj (kind src:Int)(ds:List WayD):List RtD:=(ds.filter (fun d=>d.to != src)).map (fun d=>⟨false,d.to,kind,d.cost,0,d.hops⟩)
def ZbZ (xs:List RecD)(al:List Int)(border:Bool)(src:Int)(l:List RtD):Prop:=
 ∃ ds es ts,ZaA (ZaI xs al src) ds/\ZaA (Zb0 xs al border src) es/\ZaA (Zdl xs ds es src) ts/\l=Zdj 1 src ds++Zdj 2 src es++ts.map rtOf
theorem ZbZ.unique {border:Bool}{l m:List RtD}(h:ZbZ xs al border src l)(h':ZbZ xs al border src m):l=m:=by
 obtain⟨ds,es,ts,h1,h2,h3,rfl⟩:=h;obtain⟨ds',es',ts',h1',h2',h3',rfl⟩:=h';have e1:=h1.unique h1';have e2:=h2.unique h2';subst e1;subst e2;rw [h3.unique h3']
end Go.Proofs.YtdhnddfnckgbjaaGreat
namespace Go.Proofs.YtdhnddfnckgbjaaGreat
open Go.RowKit
open Go.ChangeMaps (setBlock)

set_option linter.unusedSimpArgs false
set_option linter.unusedVariables false

structure RgG (W:World) (r m clk:Nat) (ord:List Nat) (c0:Nat):Prop where
 it:W.heap[r]? = some (.mapIter (some m) clk ord.toArray c0)
 c:clk<=c0
 nd:ord.Nodup

theorem bornG {es:List BE}{x:MapEntry}(h:x∈Za6 es):∃ y∈es,x=⟨kV y.2.1.2.1.thing y.2.1.2.1.to,y.2.2,y.1⟩:=by
 unfold Za6 at h;obtain⟨y,hy,e⟩:=YAV.1 h;exact⟨y,hy,e.symm⟩

theorem ZiW {es:List BE}(hu:es.Pairwise (fun a b=>a.1<b.1)):((Za6 es).map (·.born)).Nodup:=by
 unfold Za6;rw [YAa];refine List.Pairwise.imp (R:=fun a b=>a<b) (fun h=>Nat.ne_of_lt h) ?_;exact YAY.2 hu

theorem Zny {W:World}{lo hi r m clk:Nat}{es:List BE}{ord:List Nat}{c0:Nat}(hl:LgAt W lo hi m es clk)(hr:RgG W r m clk ord c0)(hrm:r≠m):
  ((∀ x∈es,x.1∈ord)/\(Instr.next (.pointer (some ⟨r,0,none⟩)) false 0).run Tryz.prog W=.ok (.tuple #[.bool false]) W) \/
  ∃ (x:BE) (W1:World),x∈es/\x.1 ∉ ord/\RgG W1 r m clk (ord++[x.1]) clk/\W.grownBy W1 (some r) /\
   (Instr.next (.pointer (some ⟨r,0,none⟩)) false 0).run Tryz.prog W=.ok (.tuple #[.bool true,kV x.2.1.2.1.thing x.2.1.2.1.to,x.2.2]) W1 /\
   (Instr.entry (.pointer (some ⟨r,0,none⟩))).run Tryz.prog W1=.ok (.tuple #[kV x.2.1.2.1.thing x.2.1.2.1.to,x.2.2]) W1:=by
 have hm:=hl.map;have hold:∀ x∈((Za6 es).toArray).toList,x.born<clk:=fun x hx=>by
  obtain⟨y,hy,e⟩:=bornG (by simpa using hx);rw [e];exact hl.born y hy
 rcases run_next_at (P:=Tryz.prog) W 0 r m clk c0 ord.toArray (Za6 es).toArray clk hr.it hm hold hr.c with ⟨h0,hrun⟩ | ⟨e,he,w1,hw1,hrun⟩
 ·left;refine⟨fun x hx=>?_,hrun⟩;have h1:leftOf (Za6 es).toArray ord.toArray=#[]:=Array.eq_empty_of_size_eq_zero h0;unfold leftOf at h1;rw [Array.filter_eq_empty_iff] at h1;have h3:=h1 ⟨kV x.2.1.2.1.thing x.2.1.2.1.to,x.2.2,x.1⟩ (by
   simp only [List.mem_toArray];unfold Za6;exact List.mem_map_of_mem (f:=fun x:BE=>(⟨kV x.2.1.2.1.thing x.2.1.2.1.to,x.2.2,x.1⟩:MapEntry)) hx)
  simpa using h3
 ·right;unfold leftOf at he;simp only [Array.toList_filter,YAT,List.toList_toArray] at he;obtain⟨he1,he2⟩:=he;obtain⟨x,hx,hey⟩:=bornG he1;obtain⟨b,hb⟩:∃ b,b=e.born:=⟨_,rfl⟩;have hxb:x.1=b:=by rw [hb,hey]
  have hbo:b ∉ ord:=by rw [hb];simpa using he2
  have hw1h:w1.heap=W.heap:=by rcases hw1 with rfl | rfl <;> rfl
  have hit1:w1.heap[r]? = some (.mapIter (some m) clk ord.toArray c0):=by rw [hw1h];exact hr.it
  have hrl:r<w1.heap.size:=Zab hit1;obtain⟨W1,hW1⟩:∃ W1,W1=setBlock w1 r (.mapIter (some m) clk (ord.toArray.push e.born) clk):=⟨_,rfl⟩;rw [<-hW1] at hrun;have hr1:W1.heap[r]? = some (.mapIter (some m) clk (ord++[b]).toArray clk):=by
   rw [hW1];unfold setBlock;simp [Array.getElem?_setIfInBounds_self_of_lt hrl,hb]
  have ho1:∀ j,j≠r->W1.heap[j]? = W.heap[j]? := fun j hj=>by
   rw [hW1, <-hw1h];unfold setBlock;simp [Array.getElem?_setIfInBounds_ne (Ne.symm hj)]
  have hs1:W1.heap.size=W.heap.size:=by rw [hW1, <-hw1h];simp [setBlock]
  have e1:e.key=kV x.2.1.2.1.thing x.2.1.2.1.to:=by rw [hey]
  have e2:e.val=x.2.2:=by rw [hey]
  refine⟨x,W1,hx,by rw [hxb];exact hbo,⟨by rw [hxb];exact hr1,YA _,?_⟩,?_,?_,?_⟩
  ·rw [List.nodup_append,hxb];exact⟨hr.nd,by simp,fun a ha c hc=>by
    have:c=b:=by simpa using hc
    subst this;exact fun e=>hbo (e ▸ ha)⟩
  ·refine ⟨?_,?_,?_,by omega,fun j _ hj=>ho1 j (fun e=>hj (by rw [e]))⟩ <;> (rw [hW1];rcases hw1 with rfl | rfl <;> rfl)
  ·rw [<-e1, <-e2];exact hrun
  ·rw [<-e1, <-e2];refine run_entry_at W1 r m clk ord.toArray (Za6 es).toArray clk e ?_ ((ho1 m (Ne.symm hrm)).trans hm) (by simpa using he1) (by simpa using ZiW hl.up);rw [hr1,hb];simp
end Go.Proofs.YtdhnddfnckgbjaaGreat
namespace Go.Proofs.YtdhnddfnckgbjaaGreat
open Go.RowKit
set_option linter.unusedSimpArgs false
set_option linter.unusedVariables false
set_option maxRecDepth 100000
set_option maxHeartbeats 8000000
theorem ZkR (x:LnD)(u v:Value)(w:World)(h1:Zal w u x.hops w.heap.size)(h2:Zal w v x.hops w.heap.size)(hl:x.hops.length<=1048576):
  Calls Tryz.prog 22 #[.agg (lnC x u),.agg (lnC x v)] w fun e w'=>e=.returned (.bool true)/\Below w.heap.size w w':=by
 obtain⟨ua,uc,rfl⟩:=h1.shape;obtain⟨va,vc,rfl⟩:=h2.shape;have HO:=hide (fun W (hb:Below w.heap.size w W)=>Zir x x (.slice ua x.hops.length uc) (.slice va x.hops.length vc) W (Zau.more (Zau.later h1 hb (YA _)) hb.size) (Zau.more (Zau.later h2 hb (YA _)) hb.size) hl);rw [ZgW] at HO;unfold lnC at HO |-;have bt:=ZaK (w:=w) (.cells #[.bool x.thing,.int .i64 x.to,.slice ua x.hops.length uc] 39) (.cells #[.bool x.thing,.int .i64 x.to,.slice va x.hops.length vc] 39);clear h1 h2
 go_enter Tryz.func22,Tryz.ntmps22
 go_wp2_with fail
 refine (HO.out _ bt).mono ?_;rintro e w1 ⟨rfl,hb,_⟩;have HB:=hide (bt.trans (hb.mono bt.size));clear hb bt HO;go_wp2;go_ret;exact⟨by rfl,HB.out⟩
theorem Zi2 (a1:Option Addr)(c1:Nat)(a2:Option Addr)(c2:Nat)(b1 b2:Nat)(ps qs:List JP)(w:World)(h1:w.ownsRow b1 39 3 (.slice a1 ps.length c1) ps.length (flat encJ ps))(h2:w.ownsRow b2 39 3 (.slice a2 qs.length c2) qs.length (flat encJ qs))(he:Zag ps=Zag qs)
  (hp:∀ p∈ps,Zal w p.2 p.1.hops w.heap.size/\p.1.hops.length<=1048576) (hq:∀ p∈qs,Zal w p.2 p.1.hops w.heap.size) (hl:ps.length<=1048576):
  Calls Tryz.prog 20 #[.slice a1 ps.length c1,.slice a2 qs.length c2,.func (.func 22) #[] #[]] w fun e w'=>e=.returned (.bool true)/\Below w.heap.size w w':=by
 have hlen:ps.length=qs.length:=by have:=congrArg List.length he;simpa [Zag] using this
 have HE:=hide he;have H1:=hide h1;have H2:=hide h2;have HP:=hide hp;have HQ:=hide hq;have hlz:(ps.length:Int)=(qs.length:Int):=by omega
 have HLEN:=hide hlen;clear he h1 h2 hp hq hlen;obtain⟨n,hn⟩:∃ n,n=ps.length:=⟨_,rfl⟩;obtain⟨m,hm⟩:∃ m,m=qs.length:=⟨_,rfl⟩;rw [<-hn, <-hm] at hlz;have hnm:n=m:=by omega
 subst hnm;rw [<-hn] at H1 hl |-;rw [<-hm] at H2 |-;have HN:=hide hn;have HM:=hide hm;clear hn hm hlz HLEN
 go_enter Tryz.func20,Tryz.ntmps20
 go_wp2
 go_loopw [17] (fun i wr=>∃ k:Nat,k<=n/\i=.int .i64 (k:Int)/\Below w.heap.size w wr) (fun i _=>n-(intOf i).toNat)
 case atStart=>exact ⟨0,by omega,rfl,YAB _ _⟩
 case round=>
  obtain⟨k,hk,rfl,hnx⟩:=hrel;have hsz:=hnx.size;by_cases hlt:k<n
  ·obtain ⟨p,hp⟩:∃ p,ps[k]? = some p:=⟨ps[k]'(by rw [<-HN.out];exact hlt),YAA _⟩;obtain⟨q,hq⟩:∃ q,qs[k]? = some q:=⟨qs[k]'(by rw [<-HM.out];exact hlt),YAA _⟩;have hpq:p.1=q.1:=by
    have h3:=congrArg (fun l=>l[k]?) HE.out;unfold Zag at h3;simp only [YAZ,hp,hq,Option.map_some,Option.some.injEq] at h3;exact h3
   obtain⟨g1,gc1,hue1,hg1,hgl1⟩:=ZbC H1.out (by omega);cases hue1;obtain⟨g2,gc2,hue2,hg2,hgl2⟩:=ZbC H2.out (by omega);cases hue2;have hcell1:∀ c u,(encJ p)[c]? = some u->c<3->wr.cell? ⟨g1,k*3+c,none⟩=some u:=fun c u hu hc=>by
    rw [hnx.cell (p:=⟨g1,k*3+c,none⟩) hgl1,H1.out.cellAt _ (by omega),Zbi Zb6 _ k c p hp hc];exact hu
   have hcell2:∀ c u,(encJ q)[c]? = some u->c<3->wr.cell? ⟨g2,k*3+c,none⟩=some u:=fun c u hu hc=>by
    rw [hnx.cell (p:=⟨g2,k*3+c,none⟩) hgl2,H2.out.cellAt _ (by omega),Zbi Zb6 _ k c q hq hc];exact hu
   have d0:=hcell1 0 _ rfl (by omega);have d1:=hcell1 1 _ rfl (by omega);have d2:=hcell1 2 _ rfl (by omega);have e0:=hcell2 0 _ rfl (by omega);have e1:=hcell2 1 _ rfl (by omega);have e2:=hcell2 2 _ rfl (by omega);rw [Nat.add_zero] at d0 e0;obtain⟨hp1,hp2⟩:=HP.out p (YAF hp);have hq1:=HQ.out q (YAF hq);obtain⟨ua,uc,hu⟩:=hp1.shape;obtain⟨va,vc,hv⟩:=hq1.shape;obtain⟨x,u⟩:=p;obtain⟨y,v⟩:=q;simp only at hpq hp1 hp2 hq1 hu hv d0 d1 d2 e0 e1 e2;subst hpq;subst hu;subst hv;have HCL:=hide (fun W (hb:Below w.heap.size w W)=>ZkR x (.slice ua x.hops.length uc) (.slice va x.hops.length vc) W (Zau.more (Zau.later hp1 hb (YA _)) hb.size) (Zau.more (Zau.later hq1 hb (YA _)) hb.size) hp2);unfold lnC at HCL;have bt:=ZaK (w:=wr) (.cells #[.bool x.thing,.int .i64 x.to,.slice ua x.hops.length uc] 39) (.cells #[.bool x.thing,.int .i64 x.to,.slice va x.hops.length vc] 39);have hki:(0:Int)<=(k:Int):=by omega
   have hkj:(k:Int)<(n:Int):=by omega
   have BT:=hide (hnx.trans (bt.mono hsz));have hgr1:g1<wr.heap.size:=by omega
   have hgr2:g2<wr.heap.size:=by omega
   clear hp hq hcell1 hcell2 hp1 hq1 bt
   go_wp2_with fail
   refine (HCL.out _ BT.out).mono ?_;rintro e w1 ⟨rfl,hb⟩;have HB:=hide (BT.out.trans (hb.mono BT.out.size));clear hb HCL BT;go_wp2;go_roundw
   case rel=>exact ⟨k+1,by omega,by go_num,HB.out⟩
   case measure=>simp [intOf];omega
  ·go_wp2;go_ret;exact⟨by rfl,hnx⟩
theorem ZgP (v1 v2:Value)(ps qs:List JP)(w:World)(h1:Zb8 w v1 ps w.heap.size)(h2:Zb8 w v2 qs w.heap.size)(hp:(Zag ps).Perm (Zag qs))(hn:totJ ps<=1048576)(hm:totJ qs<=1048576):
  Calls Tryz.prog 8 #[v1,v2] w fun e w'=>e=.returned (.bool true)/\Below w.heap.size w w':=by
 have hln:=Zbj ps;have hlm:=Zbj qs;obtain⟨a1,c1,rfl⟩:=h1.shape;obtain⟨a2,c2,rfl⟩:=h2.shape;have HM:=hide (fun p (hp:p∈ps)=>(show p.1.hops.length<=1048576 by have:=ZbO hp;omega));have S1:=hide (ZdG (.slice a1 ps.length c1) ps w h1 (by omega) HM.out);have S2:=hide (fun W (hb:Below w.heap.size w W)=>ZdG (.slice a2 qs.length c2) qs W ((h2.later hb (YA _)).more hb.size) (by omega) (fun p hp=>by have:=ZbO hp;omega));have H1:=hide h1;have H2:=hide h2;have HPM:=hide hp;clear h1 h2 hp
 go_enter Tryz.func8,Tryz.ntmps8
 go_wp2_with fail
 refine S1.out.mono ?_;rintro e w1 ⟨b1,d1,xs,rfl,p1,s1,o1,hb1⟩;have hws1:=hb1.size;have O1:=hide o1;have P1:=hide p1;have Q1:=hide s1;have B1:=hide hb1;clear o1 p1 s1 hb1 S1
 go_wp2_with fail
 refine (S2.out w1 B1.out).mono ?_;rintro e w2 ⟨b2,d2,ys,rfl,p2,s2,o2,hb2⟩;have B2:=B1.out.trans (hb2.mono hws1);have hfe:Zag xs=Zag ys:=Zgj _ _ (((P1.out.map _).trans HPM.out).trans (p2.map _).symm) Q1.out s2;have HEQ:=hide (Zi2 b1 d1 b2 d2 w.heap.size w1.heap.size xs ys w2 (Zad O1.out hb2 (YA _)) o2 hfe
  (fun p hp=>⟨Zau.more (Zau.later (H1.out.2 p (P1.out.mem_iff.1 hp)) B2 (YA _)) B2.size,HM.out p (P1.out.mem_iff.1 hp)⟩)
  (fun p hp=>Zau.more (Zau.later (H2.out.2 p (p2.mem_iff.1 hp)) B2 (YA _)) B2.size)
  (by have:=P1.out.length_eq;omega))
 have BB:=hide B2;clear o2 p2 s2 hb2 hfe S2 B2
 go_wp2_with fail
 refine HEQ.out.mono ?_;rintro e w3 ⟨rfl,hb3⟩;have B3:=hide (BB.out.trans (hb3.mono BB.out.size));clear hb3 HEQ;go_wp2;go_ret;exact⟨by rfl,B3.out⟩
end Go.Proofs.YtdhnddfnckgbjaaGreat
