/-
  Parts.
-/
import Derived.Test.YtikloccefmofdaaGreatFi7
import Derived.Test.YtikloccefmofdaaGreatShelfG
namespace Go.Proofs.YtikloccefmofdaaGreat
open Go.RowKit
set_option linter.unusedSimpArgs false
set_option linter.unusedVariables false
set_option maxRecDepth 100000
set_option maxHeartbeats 8000000
variable {z:Int}{ps:List RP}{hi i k lo n:Nat}{q:Nat->Nat}{v:Value}{W W':World}
structure RecsIn (W:World) (hi:Nat) (v:Value) (ps:List RP):Prop where
 row:W.ownsRow 0 37 8 v ps.length (flat encP ps)
 top:∀ k,v.ownBlock=some k->k<hi
 nears:∀ p∈ps,ZaF W 0 hi p
theorem RecsOwn.in (h:RecsOwn W lo hi v ps):RecsIn W hi v ps:=⟨Zaf h.row (Nat.zero_le _),h.top,fun p hp=>(h.nears p hp).wide (Nat.zero_le _) (YA _)⟩
theorem RecsIn.keep (h:RecsIn W hi v ps)(hk:∀ k,k<hi->k<W.heap.size->W'.heap[k]? = W.heap[k]?):RecsIn W' hi v ps where
 row:=Zal h.row (fun k e=>hk k (h.top k e) (h.row.lt k e).2)
 top:=h.top
 nears:=fun p hp=>(h.nears p hp).keep (fun k _ h2 h3=>hk k h2 h3)
theorem RecsIn.below {B:Nat}(h:RecsIn W hi v ps)(hb:Below B W W')(hB:hi<=B):RecsIn W' hi v ps:=h.keep (fun k h2 _=>hb.block k (by omega))
theorem RecsIn.wide {hi':Nat}(h:RecsIn W hi v ps)(hh:hi<=hi'):RecsIn W hi' v ps:=⟨h.row,fun k e=>YAB (h.top k e) hh,fun p hp=>(h.nears p hp).wide (YA _) hh⟩
theorem RecsIn.at (h:RecsIn W hi v ps):Zbu W v ps hi:=by
 refine⟨?_,fun p hp=>(h.nears p hp).at⟩;have h1:=Zam h.row;obtain⟨a,cap,hv,h2⟩:=h1;refine⟨a,cap,hv,?_⟩;rcases h2 with h0 | ⟨b,off,ha,hb1,hx⟩
 ·exact .inl h0
 ·exact .inr ⟨b,off,ha,h.top b (by rw [hv,ha];rfl),hx⟩
theorem Zj2 (v:Value)(ps:List RP)(hi:Nat)(w:World)(hv:RecsIn w hi v ps)(hhi:hi<=w.heap.size)(hn:tot ps<=1048576):
  Calls Tryz.prog 27 #[v] w fun e w'=>∃ x qs,e=.returned x/\fsts qs=fsts ps/\RecsOwn w' w.heap.size w'.heap.size x qs/\Below w.heap.size w w':=by
 have hnl:=Zbj ps;obtain⟨a1,c1,rfl⟩:=Zac hv.row;have HV:=hide hv;clear hv;have R0:=hide (ZcR w w.heap.size (YA _));have B0:Below w.heap.size w (w.alloc (.cells #[] 37)):=(YAC _ _).alloc (YA _) _
 go_enter Tryz.func27,Tryz.ntmps27
 go_wp2;generalize w.alloc (.cells #[] 37)=w0 at *
 go_loopw [4,3] (fun i o wr=>∃ (k:Nat) (qs:List RP) (u:Value),k<=ps.length/\i=.int .i64 k/\o=u/\fsts qs=fsts (ps.take k)/\RecsOwn wr w.heap.size wr.heap.size u qs/\Below w.heap.size w wr) (fun i _ _=>ps.length-(intOf i).toNat)
 case atStart=>exact ⟨0,[],_,by omega,rfl,rfl,by simp [fsts],R0.out,B0⟩
 case round=>
  obtain⟨k,qs,u,hk,rfl,rfl,hmap,hown,hnx⟩:=hrel;obtain⟨ua,uc,rfl⟩:=Zac hown.row;have hsz:=hnx.size;by_cases hlt:k<ps.length
  ·obtain ⟨p,hp⟩:∃ p,ps[k]? = some p:=⟨ps[k],YAA hlt⟩;have hat:=HV.out.at;obtain⟨b,off,cap',hve,hbb,c0,c1,c2,c3,c4,c5,c6,c7,_⟩:=hat.cells k p hp;cases hve;replace c0:=(hnx.cell (YAB hbb hhi)).trans c0;replace c1:=(hnx.cell (YAB hbb hhi)).trans c1;replace c2:=(hnx.cell (YAB hbb hhi)).trans c2;replace c3:=(hnx.cell (YAB hbb hhi)).trans c3;replace c4:=(hnx.cell (YAB hbb hhi)).trans c4;replace c5:=(hnx.cell (YAB hbb hhi)).trans c5;replace c6:=(hnx.cell (YAB hbb hhi)).trans c6;replace c7:=(hnx.cell (YAB hbb hhi)).trans c7;have hno:=(HV.out.nears p (YAG hp)).keep (W':=wr) (fun j _ h2 _=>hnx.block j (by omega));obtain⟨pa,pc,hpn⟩:=Zac hno.1;have HC:=Zoe p.1 p.2 0 wr hno.1 (by have:=Zem (YAG hp);omega);unfold recC at HC;rw [hpn] at c5 HC;have HCP:=hide HC;have HP:=hide hp;have HM:=hide hmap;have OW:=hide hown;have HQL:=hide (show qs.length<=1048576 by
    have h1:=congrArg List.length hmap;simp [fsts] at h1;omega)
   clear hp hmap hown hno hpn HC hat;have hki:(0:Int)<=(k:Int):=by omega
   have hkj:(k:Int)<(ps.length:Int):=by omega
   go_wp2_with fail
   refine HCP.out.mono ?_;rintro e w2 ⟨v1,rfl,hn2,b2⟩;obtain⟨n1a,n1c,rfl⟩:=Zac hn2;have b2s:=b2.size
   go_wp2_with (first
    | (at_builtin;refine ZaL Zay (by omega) (by omega) _ rfl _ _ 31 rfl w.heap.size 37 Tryz.underlying31 (.agg (recC Za9 (.slice none 0 0))) rfl Tryz.infoRec _ qs (p.1,.slice n1a p.1.near.length n1c) (ZbY _ _ _ _) rfl ((Zad OW.out.row b2 (YA _)).alloc _) ⟨w2.heap.size,0,none⟩ 1 rfl (Zan (cs:=encP (p.1,.slice n1a p.1.near.length n1c))) (by have:=HQL.out;omega) (by simp;omega) ?_))
   intro v' w4 hown' hgrow;have ow4:=OW.out.push (p:=(p.1,.slice n1a p.1.near.length n1c)) (b2.alloc b2.size _) (by omega) (ZaF.wide (ZaF.keep ⟨hn2,fun k hk=>(hn2.lt k hk).2⟩ (fun j _ _ h3=>YAH _ _ _ h3)) (YA _) (by simp)) hown' hgrow;obtain⟨va,vc,rfl⟩:=Zac hown';have B4:Below w.heap.size w w4:=((hnx.trans (b2.mono hsz)).alloc (by omega) _).grown hgrow (by simp;omega) (fun k hk=>(OW.out.row.lt k hk).1);have OW4:=hide ow4;clear ow4 hown' hgrow hn2;go_wp2;go_roundw
   case rel=>exact ⟨k+1,qs++[(p.1,.slice n1a p.1.near.length n1c)],_,by omega,by go_num,rfl,by rw [show fsts (ps.take (k+1))=fsts (ps.take k)++[p.1] from map_take HP.out, <-HM.out];simp [fsts],OW4.out,B4⟩
   case measure=>simp [intOf];omega
  ·have hkn:k=ps.length:=by omega
   have KN:=hide hkn;have OW:=hide hown;have HM:=hide hmap;clear hkn hown hmap;go_wp2;go_ret;have h1:=HM.out;rw [KN.out,YAh] at h1
   first
    | exact ⟨_,qs,rfl,h1,OW.out,hnx⟩
    | exact ⟨_,rfl,qs,h1,OW.out,hnx⟩
theorem Zrh {l:List Int}{y:Int}(h:l[k]? = some y)(hn:z ∉ l.take k)(hz:z≠y):z ∉ l.take (k+1):=by
 obtain⟨hk,e⟩:=YAD.1 h;rw [YAI hk,e];simp [hn,hz]
theorem Zpx (v:Value)(l:List Int)(z:Int)(w:World)(hn:l.length<=1048576)(hv:ZaI w v l w.heap.size):
  Calls Tryz.prog 148 #[v,.int .i64 z] w fun e w'=>e=.returned (.bool (decide (z∈l)))/\Below w.heap.size w w':=by
 obtain⟨R,hR⟩:∃ R,R=decide (z∈l):=⟨_,rfl⟩;rw [<-hR];have HR:=hide hR;clear hR;obtain⟨a,cap,rfl⟩:=hv.shape;have HV:=hide hv;clear hv
 go_enter Tryz.func148,Tryz.ntmps148
 go_wp2
 go_loopw [5] (fun i wr=>∃ k:Nat,k<=l.length/\i=.int .i64 k/\Hid (z ∉ l.take k)/\Below w.heap.size w wr) (fun i _=>l.length-(intOf i).toNat)
 case atStart=>exact ⟨0,by omega,rfl,hide (by simp),YAC _ _⟩
 case round=>
  obtain⟨k,hk,rfl,HNO,hnx⟩:=hrel;by_cases hlt:k<l.length
  ·obtain ⟨y,hy⟩:∃ y,l[k]? = some y:=⟨l[k],YAA hlt⟩;obtain⟨b,off,cap',hve,hbb,c0⟩:=HV.out.cell k y hy;cases hve;replace c0:=(hnx.cell hbb).trans c0;have hki:(0:Int)<=(k:Int):=by omega
   have hkj:(k:Int)<(l.length:Int):=by omega
   by_cases hzy:z=y
   ·subst hzy;have HF:=hide (show R=true by rw [HR.out];exact YAT (YAG hy));clear hy;go_wp2
    (try go_quiet (fail))
    (try go_wp2)
    go_ret;exact⟨Zah HF.out,by first | exact hnx | exact hnx.trans ⟨rfl,rfl,rfl,YA _,fun _ _=>rfl⟩⟩
   ·have HN:=hide (Zrh hy HNO.out hzy);have hyz:¬y=z:=fun e=>hzy e.symm;have hd:(y==z)=false:=by simpa using hyz
    clear hy;go_wp2
    (try go_quiet (fail))
    (try go_wp2)
    go_roundw
    case rel=>exact ⟨k+1,by omega,by go_num,HN,by first | exact hnx | exact hnx.trans ⟨rfl,rfl,rfl,YA _,fun _ _=>rfl⟩⟩
    case measure=>simp [intOf];omega
  ·have HF:=hide (show R=false by
    rw [HR.out];have h:=HNO.out;rw [YAL (by omega)] at h;exact YAe h)
   go_wp2;go_ret;exact⟨Zah HF.out,hnx⟩
def addT (a b:List Int):Nat->List Int
 | 0=>[]
 | k+1=>addT a b k++(if (k:Int)+1∈a\/(k:Int)+1∈b then [(k:Int)+1] else [])
def addL (a b:List Int):List Int:=addT a b 6
theorem ZiD (a b:List Int)(k:Nat):(addT a b k).length<=k:=by
 induction k with
 | zero=>simp [addT]
 | succ k ih=>
  unfold addT;rw [YAN]
  split <;> simp <;> omega
theorem ZdV (v1 v2:Value)(xs ys:List Int)(w:World)(hx:xs.length<=1048576)(hy:ys.length<=1048576)(h1:ZaI w v1 xs w.heap.size)(h2:ZaI w v2 ys w.heap.size):
  Calls Tryz.prog 119 #[v1,v2] w fun e w'=>∃ x,e=.returned x/\w'.ownsRow w.heap.size 3 1 x (addL xs ys).length (flat intE (addL xs ys))/\Below w.heap.size w w':=by
 obtain⟨a1,c1,rfl⟩:=h1.shape;obtain⟨a2,c2,rfl⟩:=h2.shape;have HI1:=hide (fun z W (hb:Below w.heap.size w W)=>Zpx (.slice a1 xs.length c1) xs z W hx ((Zav.later h1 hb (YA _)).more hb.size));have HI2:=hide (fun z W (hb:Below w.heap.size w W)=>Zpx (.slice a2 ys.length c2) ys z W hy ((Zav.later h2 hb (YA _)).more hb.size));have O0:=hide (Zdm w w.heap.size w.heap.size rfl (YA _));have B0:Below w.heap.size w (w.alloc (.cells #[] 3)):=(YAC _ _).alloc (YA _) _;clear h1 h2
 go_enter Tryz.func119,Tryz.ntmps119
 go_wp2;generalize w.alloc (.cells #[] 3)=w0 at *
 go_loopw [6,5] (fun i o wr=>∃ (k:Nat) (l:List Int) (u:Value),k<=6/\i=.int .i64 ((k:Int)+1)/\o=u/\Hid (l=addT xs ys k)/\wr.ownsRow w.heap.size 3 1 u l.length (flat intE l)/\Below w.heap.size w wr) (fun i _ _=>8-(intOf i).toNat)
 case atStart=>exact ⟨0,[],_,by omega,rfl,rfl,hide rfl,O0.out,B0⟩
 case round=>
  obtain⟨k,l,u,hk,rfl,rfl,HL,hown,hnx⟩:=hrel;obtain⟨ua,uc,rfl⟩:=Zac hown;have hsz:=hnx.size;have hll:l.length<=6:=by rw [HL.out];have:=ZiD xs ys k;omega
  have OW:=hide hown;clear hown;by_cases hlt:k<6
  ·have hk6:(k:Int)+1<=6:=by omega
   have hw1:IntKind.i64.wrap ((k:Int)+1+1)=((k+1:Nat):Int)+1:=by rw [ZaH _ (by omega) (by omega)];omega
   obtain⟨P,hP⟩:∃ P,P=decide ((k:Int)+1∈xs):=⟨_,rfl⟩;obtain⟨Q,hQ⟩:∃ Q,Q=decide ((k:Int)+1∈ys):=⟨_,rfl⟩;have H1:=HI1.out ((k:Int)+1);have H2:=HI2.out ((k:Int)+1);rw [<-hP] at H1;rw [<-hQ] at H2;have J1:=hide H1;have J2:=hide H2;have HST:=hide (show addT xs ys (k+1)=l++(if P=true\/Q=true then [(k:Int)+1] else []) by
    rw [HL.out,hP,hQ];simp [addT])
   clear H1 H2 hP hQ HI1 HI2;cases P
   ·go_wp2_with fail
    refine (J1.out _ hnx).mono ?_;rintro e w2 ⟨rfl,b2⟩;have b2s:=b2.size
    go_wp2_with fail
    refine (J2.out _ (hnx.trans (b2.mono hsz))).mono ?_;rintro e w3 ⟨rfl,b3⟩;have b3s:=b3.size;have B3:Below wr.heap.size wr w3:=b2.trans (b3.mono b2s);clear b2 b3;cases Q
    ·have HN:=hide (show l=addT xs ys (k+1) by rw [HST.out];simp);have OW3:=hide (Zad OW.out B3 (YA _));go_wp2;go_roundw
     case rel=>exact ⟨k+1,l,_,by omega,rfl,rfl,HN,OW3.out,hnx.trans (B3.mono hsz)⟩
     case measure=>simp [intOf];omega
    ·have HN:=hide (show l++[(k:Int)+1]=addT xs ys (k+1) by rw [HST.out];simp)
     go_wp2_with (first
      | (at_builtin;refine ZaL Zev (by omega) (by omega) _ rfl _ _ 40 rfl w.heap.size 3 Tryz.underlying40 (.int .i64 0) rfl Tryz.info3 _ l ((k:Int)+1) (Zdj _) rfl ((Zad OW.out B3 (YA _)).alloc _) ⟨w3.heap.size,0,none⟩ 1 rfl (Zan (cs:=intE ((k:Int)+1))) (by omega) (by simp;omega) ?_))
     intro v' w4 hown' hgrow;obtain⟨va,vc,rfl⟩:=Zac hown';have B4:Below w.heap.size w w4:=((hnx.trans (B3.mono hsz)).alloc (by omega) _).grown hgrow (by simp;omega) (fun j hj=>(OW.out.lt j hj).1);have OW4:=hide hown';clear hown' hgrow;go_wp2;go_roundw
     case rel=>exact ⟨k+1,l++[(k:Int)+1],_,by omega,rfl,rfl,HN,(by simpa using OW4.out),B4⟩
     case measure=>simp [intOf];omega
   ·have HN:=hide (show l++[(k:Int)+1]=addT xs ys (k+1) by rw [HST.out];simp)
    go_wp2_with fail
    refine (J1.out _ hnx).mono ?_;rintro e w3 ⟨rfl,B3⟩;have b3s:=B3.size
    go_wp2_with (first
     | (at_builtin;refine ZaL Zev (by omega) (by omega) _ rfl _ _ 40 rfl w.heap.size 3 Tryz.underlying40 (.int .i64 0) rfl Tryz.info3 _ l ((k:Int)+1) (Zdj _) rfl ((Zad OW.out B3 (YA _)).alloc _) ⟨w3.heap.size,0,none⟩ 1 rfl (Zan (cs:=intE ((k:Int)+1))) (by omega) (by simp;omega) ?_))
    intro v' w4 hown' hgrow;obtain⟨va,vc,rfl⟩:=Zac hown';have B4:Below w.heap.size w w4:=((hnx.trans (B3.mono hsz)).alloc (by omega) _).grown hgrow (by simp;omega) (fun j hj=>(OW.out.lt j hj).1);have OW4:=hide hown';clear hown' hgrow;go_wp2;go_roundw
    case rel=>exact ⟨k+1,l++[(k:Int)+1],_,by omega,rfl,rfl,HN,(by simpa using OW4.out),B4⟩
    case measure=>simp [intOf];omega
  ·have hk6:¬(k:Int)+1<=6:=by omega
   have KN:=hide (show l=addL xs ys by rw [HL.out,show k=6 by omega];rfl);go_wp2;go_ret;have h:=OW.out;rw [KN.out] at h;exact⟨_,by rw [KN.out];rfl,h,hnx⟩
theorem ZaR {P:Program}{fn:Func}{p u:Tmp}{ty:TypeId}(h:fn.results=#[.cell p ty,.tmp u])(tmps:Array Value)(w:World)(g:Nat)(t:TypeId)(cs:Array Value)(fr:Nat × Nat)(d:TypeDesc)
  (hp:tmps.getD p undef=.pointer (some ⟨g,0,none⟩)) (hg:w.heap[g]? = some (.cells cs t fr))
  (hu:P.underlying ty=some d) (hd:(match d with | .struct _ | .array _ _=>true | _=>false)=true) (hi:(P.info? ty).map (·.size)=some cs.size):
  (results fn tmps).run P w=.ok (.tuple #[.agg cs,tmps.getD u undef]) w:=by
 have hp':tmps[p]?.getD undef=.pointer (some ⟨g,0,none⟩):=by simpa using hp
 rw [results_cell_tmp h];simp [hp',asAddr,run_loadVar_row w g t ty cs fr d hg hu hd hi]
def Zbo (xs:List WayD)(z:Int):WayD:=(xs.find? (fun x=>x.to==z)).getD Zbl
def Zbk (xs:List WayD)(z:Int):Bool:=(xs.find? (fun x=>x.to==z)).isSome
theorem ZkO {ps:List WP}{p:WP}(h:ps[k]? = some p)(hno:∀ q∈ps.take k,q.1.to≠z)(hz:p.1.to=z):Zbo (Zaj ps) z=p.1/\Zbk (Zaj ps) z=true:=by
 have e:(Zaj ps).find? (fun x=>x.to==z)=some p.1:=by
  have h1:=ZcQ h;obtain⟨hk,e1⟩:=YAD.1 h1;rw [List.find?_eq_some_iff_append];refine⟨by simpa using hz,(Zaj ps).take k,(Zaj ps).drop (k+1),?_,?_⟩
  ·rw [<-e1, <-YAl hk,YAc]
  ·intro x hx;have e2:(Zaj ps).take k=Zaj (ps.take k):=by simp [Zaj]
   rw [e2] at hx;simp only [Zaj,YAR] at hx;obtain⟨q,hq,rfl⟩:=hx;simpa using hno q hq
 unfold Zbo Zbk;rw [e];exact⟨rfl,rfl⟩
theorem Ziz {ps:List WP}(hno:∀ q∈ps,q.1.to≠z):Zbo (Zaj ps) z=Zbl/\Zbk (Zaj ps) z=false:=by
 have e:(Zaj ps).find? (fun x=>x.to==z)=none:=by
  rw [List.find?_eq_none];intro x hx;simp only [Zaj,YAR] at hx;obtain⟨q,hq,rfl⟩:=hx;simpa using hno q hq
 unfold Zbo Zbk;rw [e];exact⟨rfl,rfl⟩
theorem ZmK {ps:List WP}{p:WP}(h:ps[k]? = some p)(hno:∀ q∈ps.take k,q.1.to≠z)(hz:p.1.to≠z):∀ q∈ps.take (k+1),q.1.to≠z:=by
 obtain⟨hk,e⟩:=YAD.1 h;rw [YAI hk,e];intro q hq;rcases YAF.1 hq with h1 | h1
 ·exact hno q h1
 ·have:q=p:=by simpa using h1
  subst this;exact hz
theorem ZcT (v:Value)(ps:List WP)(lo hi:Nat)(z:Int)(w:World)(hv:WaysOwn w lo hi v ps)(hhi:hi<=w.heap.size)(hn:totW ps<=1048576):
  Calls Tryz.prog 91 #[v,.int .i64 z] w fun e w'=>∃ u,e=.returned (.tuple #[.agg (wayC (Zbo (Zaj ps) z) u),.bool (Zbk (Zaj ps) z)])/\w'.ownsRow w.heap.size 3 1 u (Zbo (Zaj ps) z).hops.length (flat intE (Zbo (Zaj ps) z).hops)/\Below w.heap.size w w':=by
 have hnl:=ZgT ps;obtain⟨D,hD⟩:∃ D,D=Zbo (Zaj ps) z:=⟨_,rfl⟩;obtain⟨F,hF⟩:∃ F,F=Zbk (Zaj ps) z:=⟨_,rfl⟩;rw [<-hD, <-hF];have HD:=hide hD;have HF:=hide hF;clear hD hF;obtain⟨a1,c1,rfl⟩:=Zac hv.row;have HV:=hide hv;clear hv;have BX:Below w.heap.size w (w.alloc (.cells #[.int .i64 0,.int .i64 0,.slice none 0 0] 108)):=(YAC _ _).alloc (YA _) _;have hq:=YAE w (.cells #[.int .i64 0,.int .i64 0,.slice none 0 0] 108);obtain⟨w0,hw0⟩:∃ W,W=w.alloc (.cells #[.int .i64 0,.int .i64 0,.slice none 0 0] 108):=⟨_,rfl⟩;rw [<-hw0] at BX hq;have hs0:=Zab hq;have HQ:=hide hq;clear hq;unfold wayC
 go_enter Tryz.func91,Tryz.ntmps91
 go_wp2;rw [<-hw0];clear hw0
 go_loopw [6] (fun i wr=>∃ k:Nat,k<=ps.length/\i=.int .i64 k/\Hid (∀ q∈ps.take k,q.1.to≠z)/\Below w0.heap.size w0 wr) (fun i _=>ps.length-(intOf i).toNat)
 case atStart=>exact ⟨0,by omega,rfl,hide (by simp),YAC _ _⟩
 case round=>
  obtain⟨k,hk,rfl,HNO,hnx⟩:=hrel;have hsz:=hnx.size;have BWR:Below w.heap.size w wr:=BX.trans (hnx.mono (by omega));have hz1:=(hnx.block _ hs0).trans HQ.out;by_cases hlt:k<ps.length
  ·obtain ⟨p,hp⟩:∃ p,ps[k]? = some p:=⟨ps[k],YAA hlt⟩;obtain⟨b,off,cp,hve,hbb,c0,c1,c2,_⟩:=HV.out.at.cells k p hp;cases hve;have hbw:b<w.heap.size:=by omega
   have hno:=HV.out.nears p (YAG hp);obtain⟨pa,pc,hpn⟩:=Zac hno.1;have HCP:=hide (fun W (hb:Below w.heap.size w W)=>Zg4 p.1 p.2 lo W (Zad hno.1 hb (YA _)) (by have:=ZmO (YAG hp);omega));unfold wayC at HCP;rw [hpn] at c2 HCP;replace c0:=(BWR.cell hbw).trans c0;replace c1:=(BWR.cell hbw).trans c1;replace c2:=(BWR.cell hbw).trans c2;have hki:(0:Int)<=(k:Int):=by omega
   have hkj:(k:Int)<(ps.length:Int):=by omega
   by_cases hzz:p.1.to=z
   ·have hh:=ZkO hp HNO.out hzz;have hDe:D=p.1:=HD.out.trans hh.1;have hFe:F=true:=HF.out.trans hh.2;subst hDe hFe;subst hzz;clear hp hno hpn hh
    go_wp2_with fail
    refine (HCP.out _ BWR).mono ?_;rintro e w2 ⟨v1,rfl,hn2,b2⟩;obtain⟨na,nc,rfl⟩:=Zac hn2;have b2s:=b2.size;have hz2:=(b2.block _ (Zab hz1)).trans hz1;have u0:=Zaa hz2 0;have u1:=Zaa hz2 1;have u2:=Zaa hz2 2;simp at u0 u1 u2;have fu:=Zae hz2;have FF:=hide (Zds p.1 (.slice na p.1.hops.length nc) hz2);have G8:=Za2 w2 w.heap.size p.1 (.slice na p.1.hops.length nc);have O3:=hide (Zaf (b0:=w.heap.size) (hn2.kept G8 (by
     cases hv:(Value.slice na p.1.hops.length nc).ownBlock with
     | none=>exact .inl rfl
     | some g=>exact .inr (fun e=>by have:=(hn2.lt g hv).1;simp at e;omega))) (by omega))
    have B2:Below w.heap.size w w2:=BWR.trans (b2.mono (by omega));have BF:=hide (B2.grown G8 B2.size (fun k hk=>by simp at hk;omega));clear hz2 hn2 b2 G8 hz1
    go_wp2_with fail
    (try simp only [Exit.inBlock,Exit.then])
    refine bodyPost_ret (ZaR rfl _ _ w.heap.size 108 (wayC p.1 (.slice na p.1.hops.length nc)) (0,0) _ rfl FF.out Tryz.underlying108 rfl (by kernel_rfl)) rfl ?_;exact⟨_,rfl,O3.out,BF.out⟩
   ·have HN:=hide (ZmK hp HNO.out hzz);have hd:(p.1.to==z)=false:=by simpa using hzz
    clear hp hno hpn hz1;go_wp2;go_roundw
    case rel=>exact ⟨k+1,by omega,by go_num,HN,hnx⟩
    case measure=>simp [intOf];omega
  ·have hh:=Ziz (ps:=ps) (z:=z) (by have h:=HNO.out;rw [YAL (by omega)] at h;exact h);have hDe:D=Zbl:=HD.out.trans hh.1;have hFe:F=false:=HF.out.trans hh.2;subst hDe hFe;have u0:=Zaa hz1 0;have u1:=Zaa hz1 1;have u2:=Zaa hz1 2;simp at u0 u1 u2;have fu:=Zae hz1;have FF:=hide (Zds Zbl (.slice none 0 0) hz1);have G8:=hide (Za2 wr w.heap.size Zbl (.slice none 0 0));clear hz1 hh
   go_wp2_with fail
   (try simp only [Exit.inBlock,Exit.then])
   refine bodyPost_ret (ZaR rfl _ _ w.heap.size 108 (wayC Zbl (.slice none 0 0)) (0,0) _ rfl FF.out Tryz.underlying108 rfl (by kernel_rfl)) rfl ?_;exact⟨.slice none 0 0,rfl,YAZ _ _ _ _,BWR.grown G8.out BWR.size (fun k hk=>by simp at hk;omega)⟩
theorem ZoX (w:World)(o:Obj)(z:Int)(t:TypeId):((w.alloc o).alloc (.cells #[.int .i64 z] t)).cell? ((⟨w.heap.size+1,0,none⟩:Addr).add 0)=some (.int .i64 z):=by
 have hs:(w.alloc o).heap.size=w.heap.size+1:=by simp
 rw [add_zero', <-hs];exact Zaa (YAE (w.alloc o) (.cells #[.int .i64 z] t)) 0
def hit1 (f r:Int)(l:Lk):List Int:=if l.a=f/\l.r=r then [l.b] else []
def hit2 (f r:Int)(l:Lk):List Int:=if l.b=f/\l.r=r then [l.a] else []
def hits (f r:Int)(l:Lk):List Int:=hit1 f r l++hit2 f r l
def gath (ls:List Lk)(f r:Int)(k:Nat):List Int:=(ls.take k).flatMap (hits f r)
theorem Zj9 {ls:List Lk}{f r:Int}{l:Lk}(h:ls[k]? = some l):gath ls f r (k+1)=gath ls f r k++hit1 f r l++hit2 f r l:=by
 obtain⟨hk,e⟩:=YAD.1 h;unfold gath;rw [YAI hk,List.flatMap_append,e];simp [hits]
theorem Zqn (f r:Int)(l:Lk):(hits f r l).length<=2:=by
 unfold hits hit1 hit2
 split <;> split <;> simp
theorem Zqg (ls:List Lk)(f r:Int)(k:Nat):(gath ls f r k).length<=2*k:=by
 induction k with
 | zero=>simp [gath]
 | succ k ih=>
  by_cases hk:k<ls.length
  ·have h1:=Zqn f r ls[k];rw [Zj9 (YAA hk)];unfold hits at h1;simp only [YAN] at h1 |-
   omega
  ·have e:gath ls f r (k+1)=gath ls f r k:=by unfold gath;rw [YAL (by omega),YAL (by omega)]
   rw [e];omega
def ZgA (ls:List Lk)(f r:Int):List Int:=Lib.compact ((gath ls f r ls.length).mergeSort fun x y=>decide (x<=y))
theorem ZoE (n:Value)(v tv:Value)(ls:List Lk)(f r:Int)(w:World)(hls:ls.length<=1048576)(hv:ZaK w v ls w.heap.size):
  Calls Tryz.prog 67 #[.agg #[n,v,tv],.int .i64 f,.int .i64 r] w fun e w'=>∃ x,e=.returned x/\w'.ownsRow w.heap.size 3 1 x (gath ls f r ls.length).length (Zbb (gath ls f r ls.length))/\Below w.heap.size w w':=by
 obtain⟨a,cap,rfl⟩:∃ a cap,v=.slice a ls.length cap:=by obtain ⟨a,cap,h,_⟩:=hv;exact⟨a,cap,h⟩
 have HV:=hide hv;clear hv
 go_enter Tryz.func67,Tryz.ntmps67
 go_wp2
 go_loopw [7,15] (fun u i wr=>∃ k:Nat,k<=ls.length/\i=.int .i64 k/\wr.ownsRow w.heap.size 3 1 u (gath ls f r k).length (Zbb (gath ls f r k))/\Below w.heap.size w wr) (fun _ i _=>ls.length-(intOf i).toNat)
 case atStart=>exact ⟨0,by omega,rfl,⟨by simp [gath,Zbb],.inl ⟨rfl,by simp [gath]⟩⟩,(YAC _ _).alloc (YA _) _⟩
 case round=>
  obtain⟨k,hk,rfl,hown,hb⟩:=hrel;have hgl:=Zqg ls f r k;by_cases hlt:k<ls.length
  ·obtain ⟨l,hl⟩:∃ l,ls[k]? = some l:=⟨ls[k],YAA hlt⟩;obtain⟨b,off,cap',hve,hbb,c0,c1,c2,c3⟩:=HV.out.cells k l hl;cases hve;replace c0:=(hb.cell hbb).trans c0;replace c1:=(hb.cell hbb).trans c1;replace c2:=(hb.cell hbb).trans c2;replace c3:=(hb.cell hbb).trans c3;have HG:=hide (Zj9 (f:=f) (r:=r) hl);have hbo:=ZiP l;clear hl;obtain⟨la,lb,lc,lr⟩:=l;unfold Zn9 lkV at hbo;simp only [] at hbo c0 c1 c2 c3;have HBO:=hide hbo;have OW:=hide hown;clear hbo hown;have hzr:=hb.size;generalize hg:gath ls f r k=g at OW hgl HG
   go_wp2_with fail
   refine (HBO.out _).mono ?_;rintro e w1 ⟨rfl,b1⟩;have ow1:=Zad (OW.out.alloc _) b1 (YA _);have B1:Below w.heap.size w w1:=(hb.alloc hb.size _).trans (b1.mono (by simp;omega));have OW1:=hide ow1;clear b1 ow1 c0 c1 c2 c3 OW;go_wp2
   go_loopw [7,21] (fun u i wi=>∃ (j:Nat) (h:List Int),j<=2/\i=.int .i64 j/\h=(if j=0 then g else if j=1 then g++hit1 f r ⟨la,lb,lc,lr⟩ else g++hit1 f r ⟨la,lb,lc,lr⟩++hit2 f r ⟨la,lb,lc,lr⟩)/\wi.ownsRow w.heap.size 3 1 u h.length (Zbb h)/\Below w.heap.size w wi) (fun _ i _=>2-(intOf i).toNat)
   case atStart=>exact ⟨0,g,by omega,rfl,rfl,OW1.out,B1⟩
   case round=>
    obtain⟨wz,rfl⟩:∃ wz:World,wz=wr:=⟨_,rfl⟩;clear OW1 B1;obtain⟨j,h,hj,rfl,hh,hown,hb2⟩:=hrel;have hz2:=hb2.size;have hhl:h.length<=2*k+2:=by
     have e1:(hit1 f r ⟨la,lb,lc,lr⟩).length<=1:=by unfold hit1;split <;> simp
     have e2:(hit2 f r ⟨la,lb,lc,lr⟩).length<=1:=by unfold hit2;split <;> simp
     rw [hh]
     split
     ·omega
     ·split <;> simp only [YAN] <;> omega
    have HH:=hide hh;have OW:=hide hown;clear hh hown;obtain rfl | rfl | rfl:j=0\/j=1\/j=2:=by omega
    ·have i0:=fun W=>Zhv W (.int .i64 la) (.int .i64 lb) (.int .i64 lc) (.int .i64 lr) (.int .i64 lb) (.int .i64 la) (.int .i64 lc) (.int .i64 lr);by_cases hA:la=f/\lr=r
     ·have e1:(la==f)=true:=by simp [hA.1]
      have e2:(lr==r)=true:=by simp [hA.2]
      have hn:h++[lb]=g++hit1 f r ⟨la,lb,lc,lr⟩:=by
       rw [HH.out];simp [hit1,hA]
      have HN:=hide hn;clear hn hA
      go_wp2_with (first
       | (at_builtin;refine Zbp _ rfl _ _ 40 rfl w.heap.size 3 Tryz.underlying40 Tryz.info3 u7 h lb rfl ((OW.out.alloc _).alloc _) ⟨wz.heap.size+1,0,none⟩ 1 rfl (ZoX wz _ _ _) (by omega) (by simp;omega) ?_))
      intro v' w5 l' hl' hown' hgrow;have B5:Below w.heap.size w w5:=((hb2.alloc hb2.size _).alloc (by simp;omega) _).grown hgrow (by simp;omega) (fun k hk=>by have:=(OW.out.lt k hk).1;omega);have OW5:=hide hown';clear hown' hgrow;go_wp2;go_roundw
      case rel=>exact ⟨1,l',by omega,by go_num,by rw [hl'.out,HN.out];rfl,OW5.out,B5⟩
      case measure=>simp [intOf]
     by_cases hB:la=f
     ·have e1:(la==f)=true:=by simp [hB]
      have e2:(lr==r)=false:=by
       have:¬lr=r:=fun e=>hA ⟨hB,e⟩;simpa using this
      clear hB;have hn:h=g++hit1 f r ⟨la,lb,lc,lr⟩:=by
       rw [HH.out];simp [hit1,hA]
      have HN:=hide hn;clear hn hA;go_wp2;go_roundw
      case rel=>exact ⟨1,h,by omega,by go_num,by rw [HN.out];rfl,OW.out.alloc _,hb2.alloc hb2.size _⟩
      case measure=>simp [intOf]
     ·have e1:(la==f)=false:=by simpa using hB
      clear hB;have hn:h=g++hit1 f r ⟨la,lb,lc,lr⟩:=by
       rw [HH.out];simp [hit1,hA]
      have HN:=hide hn;clear hn hA;go_wp2;go_roundw
      case rel=>exact ⟨1,h,by omega,by go_num,by rw [HN.out];rfl,OW.out.alloc _,hb2.alloc hb2.size _⟩
      case measure=>simp [intOf]
    ·have i0:=fun W=>Zhw W (.int .i64 la) (.int .i64 lb) (.int .i64 lc) (.int .i64 lr) (.int .i64 lb) (.int .i64 la) (.int .i64 lc) (.int .i64 lr);by_cases hA:lb=f/\lr=r
     ·have e1:(lb==f)=true:=by simp [hA.1]
      have e2:(lr==r)=true:=by simp [hA.2]
      have hn:h++[la]=g++hit1 f r ⟨la,lb,lc,lr⟩++hit2 f r ⟨la,lb,lc,lr⟩:=by
       rw [HH.out];simp [hit2,hA]
      have HN:=hide hn;clear hn hA
      go_wp2_with (first
       | (at_builtin;refine Zbp _ rfl _ _ 40 rfl w.heap.size 3 Tryz.underlying40 Tryz.info3 u7 h la rfl ((OW.out.alloc _).alloc _) ⟨wz.heap.size+1,0,none⟩ 1 rfl (ZoX wz _ _ _) (by omega) (by simp;omega) ?_))
      intro v' w5 l' hl' hown' hgrow;have B5:Below w.heap.size w w5:=((hb2.alloc hb2.size _).alloc (by simp;omega) _).grown hgrow (by simp;omega) (fun k hk=>by have:=(OW.out.lt k hk).1;omega);have OW5:=hide hown';clear hown' hgrow;go_wp2;go_roundw
      case rel=>exact ⟨2,l',by omega,by go_num,by rw [hl'.out,HN.out];rfl,OW5.out,B5⟩
      case measure=>simp [intOf]
     by_cases hB:lb=f
     ·have e1:(lb==f)=true:=by simp [hB]
      have e2:(lr==r)=false:=by
       have:¬lr=r:=fun e=>hA ⟨hB,e⟩;simpa using this
      clear hB;have hn:h=g++hit1 f r ⟨la,lb,lc,lr⟩++hit2 f r ⟨la,lb,lc,lr⟩:=by
       rw [HH.out];simp [hit2,hA]
      have HN:=hide hn;clear hn hA;go_wp2;go_roundw
      case rel=>exact ⟨2,h,by omega,by go_num,by rw [HN.out];rfl,OW.out.alloc _,hb2.alloc hb2.size _⟩
      case measure=>simp [intOf]
     ·have e1:(lb==f)=false:=by simpa using hB
      clear hB;have hn:h=g++hit1 f r ⟨la,lb,lc,lr⟩++hit2 f r ⟨la,lb,lc,lr⟩:=by
       rw [HH.out];simp [hit2,hA]
      have HN:=hide hn;clear hn hA;go_wp2;go_roundw
      case rel=>exact ⟨2,h,by omega,by go_num,by rw [HN.out];rfl,OW.out.alloc _,hb2.alloc hb2.size _⟩
      case measure=>simp [intOf]
    ·have hn:h=gath ls f r (k+1):=by rw [HG.out,HH.out];rfl
     have HN:=hide hn;clear hn;go_wp2;exact⟨⟨k+1,by omega,by go_num,by rw [<-HN.out];exact OW.out,hb2⟩,by simp [intOf];omega⟩
  ·have hk':k=ls.length:=by omega
   rw [hk'] at hown;have OW:=hide hown;clear hown hk';go_wp2;go_ret;exact⟨_,rfl,OW.out,hb⟩
theorem Zop (n:Nat)(w:World)(hn:n<=1000000):
  Calls Tryz.prog 81 #[.slice none 0 0,.int .i64 (n:Int)] w fun e w'=>∃ x,e=.returned x/\w'.ownsRow w.heap.size 37 8 x 0 []/\Below w.heap.size w w':=by
 by_cases h0:n=0
 ·subst h0;have h:=Any8.slices_Grow_room Tryz.growR none 0 0 0 w (YA _) (by omega) (by omega) (by omega);change Calls Tryz.prog 81 _ _ _ at h;exact h.mono fun e w' ⟨h1,h2⟩=>⟨_,h1,by rw [h2];exact YAZ _ _ _ _,by rw [h2];exact YAC _ _⟩
 ·have hi:=Tryz.infoRec;cases hf:Tryz.prog.info? 37 with
  | none=>rw [hf] at hi;cases hi
  | some i0=>
   rw [hf] at hi;simp only [Option.map_some,Option.some.injEq,Prod.mk.injEq] at hi;obtain⟨hz,hs,hb⟩:=hi;have h:=Any8.slices_Grow_grow Tryz.growR i0 (.agg (recC Za9 (.slice none 0 0))) hf hz (by rw [hs];omega) none 0 0 n [] w (by omega) (by omega) (by rw [hb];omega) (by omega) (by simp) (fun _=>rfl) (fun a ha=>by cases ha);change Calls Tryz.prog 81 _ _ _ at h;refine h.mono fun e w' ⟨h1,h2⟩=>⟨_,h1,?_,?_⟩
   ·rw [h2];have hg:=grownCap_ge w (0+n) 0 37;have hm:=grownCap_le_maxLen w (0+n) 0 37 (by unfold maxLen;omega);exact World.ownsRow_made (base:=w.heap.size) (e:=37) (size:=8) w.drew _ _ (YA _) hm (by
     rw [Array.size_append,Array.size_append,size_zeroCells,size_zeroCells];rw [show (Value.cells (.agg (recC Za9 (.slice none 0 0)))).size=8 from rfl];simp only [List.size_toArray,List.length_nil];change 0+(0+n-0)*8+(grownCap w (0+n) 0 37-(0+n))*8=grownCap w (0+n) 0 37*8;omega)
   ·rw [h2];exact (YAC w.heap.size w).drew.alloc (YA _) _
theorem Zk3 (ls:List (Value × List RP))(b:Nat)(w:World)(hb:∀ j x,ls[j]? = some x->w.cell? ⟨b,j,none⟩=some x.1)(hrows:∀ x∈ls,∃ base,w.ownsRow base 37 8 x.1 x.2.length (flat encP x.2))(hone:∀ x∈ls,∀ p∈x.2,∀ u∈encP p,u.oneCell'=true)(hn:sumL ls<=1000000)(hbl:b<w.heap.size)(hl:ls.length<=10):
  Calls Tryz.prog 47 #[.slice (some ⟨b,0,none⟩) ls.length ls.length] w fun e w'=>∃ x,e=.returned x/\w'.ownsRow w.heap.size 37 8 x (ZbZ ls).length (flat encP (ZbZ ls))/\Below w.heap.size w w':=by
 have HC:=hide hb;have HR:=hide hrows;have HO:=hide hone;have HG:=hide (fun W=>Zop (sumL ls) W hn);clear hb hrows hone
 go_enter Tryz.func47,Tryz.ntmps47
 go_wp2
 go_loopw [11,3] (fun i s wr=>∃ (k:Nat),k<=ls.length/\i=.int .i64 (k:Int)/\s=.int .i64 ((sumL (ls.take k):Nat):Int)/\Below w.heap.size w wr) (fun i _ _=>ls.length-(intOf i).toNat)
 case atStart=>exact ⟨0,by omega,rfl,rfl,YAC _ _⟩
 case round=>
  obtain⟨k,hk,rfl,rfl,hnx⟩:=hrel;have hle:=ZcL ls k;by_cases hlt:k<ls.length
  ·obtain ⟨x,hx⟩:∃ x,ls[k]? = some x:=⟨ls[k],YAA hlt⟩;have c0:=HC.out k x hx;replace c0:=(hnx.cell hbl).trans c0;obtain⟨base,hrow⟩:=HR.out x (YAG hx);obtain⟨xa,xc,hxe⟩:=Zac hrow;rw [hxe] at c0;have hst:=ZdI hx;have hle2:=ZcL ls (k+1);have hki:(0:Int)<=(k:Int):=by omega
   have hkj:(k:Int)<(ls.length:Int):=by omega
   have hneg:¬((sumL (ls.take k):Int)+(x.2.length:Int)<0):=by omega
   have hb2:(sumL (ls.take k):Int)+(x.2.length:Int)<=1000000:=by omega
   have HST:=hide hst;have HN:=hide hnx;clear hx hrow hxe hnx hst hle hle2;go_wp2;go_roundw
   case rel=>exact ⟨k+1,by omega,by go_num,by rw [HST.out];simp,HN.out⟩
   case measure=>simp [intOf];omega
  ·have hkn:¬(k:Int)<(ls.length:Int):=by omega
   have hke:ls.take k=ls:=YAL (by omega);rw [hke];have HN:=hide hnx;clear hke hle hnx
   go_wp2_with fail
   refine (HG.out _).mono ?_;rintro e w1 ⟨x0,rfl,ho1,b1⟩;obtain⟨xa,xc,rfl⟩:=Zac ho1;have hb1:=b1.size;have hws:=HN.out.size;have HB1:=hide (HN.out.trans (b1.mono hws));have HO1:=hide (Zaf ho1 hws);clear ho1 b1 HN HG
   rename World=>wq
   go_wp2
   go_loopw [27,6] (fun i o wr=>∃ (k:Nat) (x:Value),k<=ls.length/\i=.int .i64 (k:Int)/\o=x/\wr.ownsRow w.heap.size 37 8 x (ZbZ (ls.take k)).length (flat encP (ZbZ (ls.take k)))/\Below w.heap.size w wr) (fun i _ _=>ls.length-(intOf i).toNat)
   case atStart=>exact ⟨0,_,by omega,rfl,rfl,HO1.out,HB1.out⟩
   case round=>
    obtain⟨j,y,hj,rfl,rfl,hown,hnx⟩:=hrel;clear HO1 HB1;obtain⟨ya,yc,rfl⟩:=Zac hown;have hle:=ZcL ls j;have hsz:=hnx.size;by_cases hlt:j<ls.length
    ·obtain ⟨x,hx⟩:∃ x,ls[j]? = some x:=⟨ls[j],YAA hlt⟩;have c0:=HC.out j x hx;replace c0:=(hnx.cell hbl).trans c0;obtain⟨base,hrow⟩:=HR.out x (YAG hx);have hrow2:=Zad hrow hnx (YA _);obtain⟨za,zc,hxe⟩:=Zac hrow;rw [hxe] at c0 hrow2;have hst:=ZdI hx;have hle2:=ZcL ls (j+1);have hjt:=Zgc hx;have hjl:=Zhh (ls.take j);have hki:(0:Int)<=(j:Int):=by omega
     have hkj:(j:Int)<(ls.length:Int):=by omega
     have HX:=hide hrow2;have HW:=hide hown;have HN:=hide hnx;have HJT:=hide hjt;have HX1:=hide (HO.out x (YAG hx));have hbd:(ZbZ (ls.take j)).length+x.2.length<=1000000000:=by omega
     clear hx hrow hrow2 hxe hnx hown hst hjt hle hle2 hjl
     go_wp2_with (first
      | (at_builtin;refine ZcX (fun l=>ZaD Zay l) (by omega) (by omega) _ rfl _ _ 31 rfl w.heap.size 37 Tryz.underlying31 (.agg (recC Za9 (.slice none 0 0))) rfl Tryz.infoRec _ (ZbZ (ls.take j)) rfl HW.out base _ x.2 HX1.out rfl HX.out (by omega) (by omega) ?_))
     intro v' w4 hown' hgrow;have N1:=hide (show w4.ownsRow w.heap.size 37 8 v' (ZbZ (ls.take (j+1))).length (flat encP (ZbZ (ls.take (j+1)))) by rw [HJT.out,YAN];exact hown');have N2:=hide (HN.out.grown hgrow (by omega) (fun k hk=>(HW.out.lt k hk).1));obtain⟨va,vc,rfl⟩:=Zac hown';clear hown' hgrow HX HW HN HJT HX1;go_wp2;go_roundw
     case rel=>exact ⟨j+1,_,by omega,by go_num,rfl,N1.out,N2.out⟩
     case measure=>simp [intOf];omega
    ·have hkn2:¬(j:Int)<(ls.length:Int):=by omega
     have hke:ls.take j=ls:=YAL (by omega);rw [hke] at hown |-;have HW:=hide hown;have HN:=hide hnx;clear hown hnx hke hle;go_wp2;go_ret;exact⟨_,rfl,HW.out,HN.out⟩
def ptrV (k:Nat):Value:=.pointer (some ⟨k,0,none⟩)
def ptrs (q:Nat->Nat)(n:Nat):List Value:=(List.range n).map (fun i=>ptrV (q i))
theorem Ze8 (h:i<n):(ptrs q n)[i]? = some (ptrV (q i)):=by simp [ptrs,h]
theorem ZgN (q:Nat->Nat)(n:Nat):(ptrs q n).length=n:=by simp [ptrs]
structure HQ (W:World) (lo:Nat) (u:Value) (n:Nat) (q:Nat->Nat) (wd:Nat->WayD) (wv:Nat->Value):Prop where
 row:W.ownsRow lo 157 1 u n (ptrs q n)
 way:∀ i,i<n->W.heap[q i]? = some (.cells (wayC (wd (q i)) (wv (q i))) 108)
 sl:∀ i,i<n->∃ a l c,wv (q i)=.slice a l c
theorem HQ.cell {u:Value}{wd:Nat->WayD}{wv:Nat->Value}(h:HQ W lo u n q wd wv)(hi:i<n):∃ g cap,u=.slice (some ⟨g,0,none⟩) n cap/\W.cell? ⟨g,i,none⟩=some (ptrV (q i))/\g<W.heap.size:=by
 rcases h.row.2 with ⟨_,e⟩ | ⟨g,cap,cur,hv,_⟩
 ·omega
 ·refine ⟨g,cap,hv,?_,(h.row.lt g (by rw [hv];rfl)).2⟩;have:=World.ownsRow.cellAt (by rw [<-hv];exact h.row) i (by omega);rw [this,Ze8 hi]
theorem HQ.below {u:Value}{wd:Nat->WayD}{wv:Nat->Value}(h:HQ W lo u n q wd wv)(hb:Below W.heap.size W W'):HQ W' lo u n q wd wv:=
 ⟨Zad h.row hb (YA _),fun i hi=>(hb.block _ (Zab (h.way i hi))).trans (h.way i hi),h.sl⟩
theorem ZfC (W:World)(lo n:Nat)(u:Value)(q:Nat->Nat)(wd:Nat->WayD)(wv:Nat->Value)(i j:Nat)(h:HQ W lo u n q wd wv)(hi:i<n)(hj:j<n):
  Calls Tryz.prog 219 #[u,.int .i64 (i:Int),.int .i64 (j:Int)] W fun e W'=>e=.returned (.bool (decide ((wd (q i)).cost<(wd (q j)).cost)))/\Below W.heap.size W W':=by
 obtain⟨g,cap,rfl,ci,hg⟩:=h.cell hi;obtain⟨g2,cap2,e2,cj,_⟩:=h.cell hj;cases e2;obtain⟨ai,li,ci2,ei⟩:=h.sl i hi;obtain⟨aj,lj,cj2,ej⟩:=h.sl j hj;have wi:=h.way i hi;have wj:=h.way j hj;rw [ei] at wi;rw [ej] at wj;obtain⟨x,hx⟩:∃ x,x=wd (q i):=⟨_,rfl⟩;obtain⟨y,hy⟩:∃ y,y=wd (q j):=⟨_,rfl⟩;obtain⟨p,hp⟩:∃ p,p=q i:=⟨_,rfl⟩;obtain⟨r,hr⟩:∃ r,r=q j:=⟨_,rfl⟩;rw [<-hx] at wi |-;rw [<-hy] at wj |-;rw [<-hp] at ci wi;rw [<-hr] at cj wj;unfold ptrV at ci cj;have a0:=Zaa wi 0;have a1:=Zaa wi 1;have a2:=Zaa wi 2;have b0:=Zaa wj 0;have b1:=Zaa wj 1;have b2:=Zaa wj 2;simp [wayC] at a0 a1 a2 b0 b1 b2;have hBt:=hide (fun W=>Zcs (.slice ai li ci2) (.slice aj lj cj2) x y W);unfold wayC Zbr at hBt;have h1:(0:Int)<=(i:Int):=by omega
 have h2:(i:Int)<(n:Int):=by omega
 have h3:(0:Int)<=(j:Int):=by omega
 have h4:(j:Int)<(n:Int):=by omega
 have lp:=Zab wi;have lr:=Zab wj;clear h hx hy hp hr wi wj ei ej
 go_enter Tryz.func219,Tryz.ntmps219
 go_wp2
 go_region_held3 (fun V=>V.cell? ⟨g,i,none⟩=some (.pointer (some ⟨p,0,none⟩))/\V.cell? ⟨g,j,none⟩=some (.pointer (some ⟨r,0,none⟩))/\V.cell? ⟨p,0,none⟩=some (.int .i64 x.to)/\V.cell? ⟨p,1,none⟩=some (.int .i64 x.cost)/\V.cell? ⟨p,2,none⟩=some (.slice ai li ci2)/\V.cell? ⟨r,0,none⟩=some (.int .i64 y.to)/\V.cell? ⟨r,1,none⟩=some (.int .i64 y.cost)/\V.cell? ⟨r,2,none⟩=some (.slice aj lj cj2)) (first | (refine ⟨?_,?_,?_,?_,?_,?_,?_,?_⟩ <;> (refine Eq.trans (Below.cell (B:=W.heap.size) (w:=W.drew) hbb ?_) ?_ <;> assumption)) | go_keep) (first | (go_at_call 139;refine (hBt.out _).mono ?_;rintro e w2 ⟨rfl,hbb⟩))
 go_wp2;go_ret;exact⟨rfl,((YAC W.heap.size W).drew).trans hbb⟩
theorem Zje (W:World)(a:Option Addr)(n cap:Nat):Calls Tryz.prog 141 #[.slice a n cap] W fun e W'=>e=.returned (.int .i64 (n:Int))/\W=W':=by
 go_enter Tryz.func141,Tryz.ntmps141
 go_wp2;go_ret;exact⟨rfl,rfl⟩
theorem Zjp {g cap:Nat}{e:TypeId}(h:W.ownsRow lo e 1 (.slice (some ⟨g,0,none⟩) n cap) n (ptrs q n))(hi:i<n)(k:Nat):(W.setCell ⟨g,i,none⟩ (ptrV k)).ownsRow lo e 1 (.slice (some ⟨g,0,none⟩) n cap) n (ptrs (fun x=>if x=i then k else q x) n):=by
 rcases h.2 with ⟨e1,_⟩ | ⟨g',cap',cur,hv,hg,hh,hnc,hcm,hcs,htk⟩
 ·cases e1
 ·cases hv;refine⟨by rw [ZgN];omega,.inr ⟨g,cap,cur.setIfInBounds i (ptrV k),rfl,hg,YAU W g i _ _ _ hh,hnc,hcm,by simpa using hcs,?_⟩⟩;have e2:(cur.setIfInBounds i (ptrV k)).toList=cur.toList.set i (ptrV k):=by simp
  rw [e2,List.take_set];have e3:cur.toList.take (n*1)=ptrs q n:=htk;rw [Nat.mul_one] at e3 |-;rw [e3];apply List.ext_getElem?;intro x;rw [List.getElem?_set];by_cases hx:x<n
  ·rw [Ze8 hx];by_cases e4:i=x
   ·subst e4;rw [if_pos rfl,if_pos (by rw [ZgN];exact hi),Ze8 hi,if_pos rfl]
   ·rw [if_neg e4,Ze8 hx,if_neg (fun e=>e4 e.symm)]
  ·rw [List.getElem?_eq_none (by rw [ZgN];omega),if_neg (by omega),List.getElem?_eq_none (by rw [ZgN];omega)]
theorem ZfY (W:World)(lo n:Nat)(u:Value)(q:Nat->Nat)(i j:Nat)(h:W.ownsRow lo 157 1 u n (ptrs q n))(hi:i<n)(hj:j<n):
  Calls Tryz.prog 220 #[u,.int .i64 (i:Int),.int .i64 (j:Int)] W fun e W'=>e=.returned (.tuple #[])/\W'.ownsRow lo 157 1 u n (ptrs (Zcn q i j) n)/\W.grownBy W' u.ownBlock:=by
 rcases h.2 with ⟨_,e⟩ | ⟨g,cap,cur,hv,hg,hh,_⟩
 ·omega
 subst hv;have ci:=(World.ownsRow.cellAt h i (by omega)).trans (Ze8 hi);have cj:=(World.ownsRow.cellAt h j (by omega)).trans (Ze8 hj);have fz:=Zae hh;obtain⟨p,hp⟩:∃ p,p=q i:=⟨_,rfl⟩;obtain⟨r,hr⟩:∃ r,r=q j:=⟨_,rfl⟩;rw [<-hp] at ci;rw [<-hr] at cj;unfold ptrV at ci cj;have h1:(0:Int)<=(i:Int):=by omega
 have h2:(i:Int)<(n:Int):=by omega
 have h3:(0:Int)<=(j:Int):=by omega
 have h4:(j:Int)<(n:Int):=by omega
 obtain⟨y,hy⟩:∃ y,(W.setCell ⟨g,i,none⟩ (.pointer (some ⟨r,0,none⟩))).cell? ⟨g,j,none⟩=some y:=by
  have o1:=Zjp h hi r;exact⟨_,(World.ownsRow.cellAt o1 j (by omega)).trans (Ze8 hj)⟩
 have HP:=hide hp;have HR:=hide hr;have HH:=hide h;have HO:=hide (show ((W.setCell ⟨g,i,none⟩ (.pointer (some ⟨r,0,none⟩))).setCell ⟨g,j,none⟩ (.pointer (some ⟨p,0,none⟩))).ownsRow lo 157 1 (.slice (some ⟨g,0,none⟩) n cap) n (ptrs (Zcn q i j) n) by
  have o2:=Zjp (Zjp h hi r) hj p;have e:(fun x=>if x=j then p else if x=i then r else q x)=Zcn q i j:=by
   funext x;unfold Zcn;by_cases e1:x=j
   ·rw [if_pos e1];by_cases e2:x=i
    ·rw [if_pos e2,hp, <-e2,e1]
    ·rw [if_neg e2,if_pos e1,hp]
   ·rw [if_neg e1];by_cases e2:x=i
    ·rw [if_pos e2,if_pos e2,hr]
    ·rw [if_neg e2,if_neg e2,if_neg e1]
  rw [e] at o2;exact o2)
 have HG:=hide (show W.grownBy ((W.setCell ⟨g,i,none⟩ (.pointer (some ⟨r,0,none⟩))).setCell ⟨g,j,none⟩ (.pointer (some ⟨p,0,none⟩))) (some g) from Zai (Zaw W g _ _) (Zaw _ g _ _));clear hh hp hr h
 go_enter Tryz.func220,Tryz.ntmps220
 go_wp2
 go_region
 go_wp2
 go_returns
 exact⟨rfl,HO.out.drew,⟨HG.out.os,HG.out.tape,HG.out.output,HG.out.size,HG.out.block⟩⟩
def ltW (xs:List WayD)(r:WayD)(t:Nat):Prop:=∃ x,xs[t]? = some x/\x.to<r.to
theorem ZrA {xs:List WayD}{r x:WayD}{t:Nat}(h:xs[t]? = some x):ltW xs r t↔x.to<r.to:=by
 constructor
 ·rintro ⟨y,hy,hl⟩;rw [h] at hy;cases hy;exact hl
 ·exact fun hl=>⟨x,h,hl⟩
theorem ZfN (v1 v2:Value)(x y:WayD)(w:World):Calls Tryz.prog 125 #[.agg (wayC x v1),.agg (wayC y v2)] w fun e w'=>e=.returned (.int .i64 (cmpN x.to y.to))/\Below w.heap.size w w':=by
 unfold wayC
 go_enter Tryz.func125,Tryz.ntmps125
 go_wp2_with fail
 refine (Zbi _ _ _).mono ?_;rintro e w1 ⟨rfl,rfl⟩;go_wp2;go_ret;exact⟨rfl,ZaB _ _⟩
theorem ZlH (v:Value)(ps:List WP)(hi:Nat)(r:WP)(w:World)(hv:ZcW w v ps hi)(hhi:hi<=w.heap.size)(hn:ps.length<=1048576)(hr:∃ a c,r.2=.slice a r.1.hops.length c)(hmono:∀ s t,s<=t->t<ps.length->ltW (Zaj ps) r.1 t->ltW (Zaj ps) r.1 s):
  Calls Tryz.prog 124 #[v,.agg (wayC r.1 r.2),.func (.func 125) #[] #[]] w fun e w'=>∃ (i:Nat) (f:Bool),e=.returned (.tuple #[.int .i64 (i:Int),.bool f])/\i<=ps.length/\(∀ t,t<i->ltW (Zaj ps) r.1 t)/\(∀ t,i<=t->t<ps.length->¬ltW (Zaj ps) r.1 t)/\(f=true↔∃ x,(Zaj ps)[i]? = some x/\x.to=r.1.to)/\Below w.heap.size w w':=by
 obtain⟨a1,c1,rfl⟩:=hv.shape;obtain⟨ra,rc,hrn⟩:=hr;have HRN:=hide hrn;have HV:=hide hv;have HM:=hide hmono;unfold wayC;rw [hrn];clear hv hrn hmono;have BX:Below w.heap.size w (w.alloc (.cells #[.int .i64 r.1.to,.int .i64 r.1.cost,.slice ra r.1.hops.length rc] 108)):=(YAC _ _).alloc (YA _) _;have hx:=YAE w (.cells #[.int .i64 r.1.to,.int .i64 r.1.cost,.slice ra r.1.hops.length rc] 108);obtain⟨w0,hw0⟩:∃ w0,w0=w.alloc (.cells #[.int .i64 r.1.to,.int .i64 r.1.cost,.slice ra r.1.hops.length rc] 108):=⟨_,rfl⟩;rw [<-hw0] at BX hx;have hs0:=Zab hx;have HX:=hide hx;clear hx
 go_enter Tryz.func124,Tryz.ntmps124
 go_wp2;rw [<-hw0];clear hw0
 go_loopw [9,10] (fun i j wr=>∃ (m n:Nat),m<=n/\n<=ps.length/\i=.int .i64 m/\j=.int .i64 n/\Hid (∀ t,t<m->ltW (Zaj ps) r.1 t)/\Hid (∀ t,n<=t->t<ps.length->¬ltW (Zaj ps) r.1 t)/\Below w0.heap.size w0 wr) (fun i j _=>(intOf j).toNat-(intOf i).toNat)
 case atStart=>exact ⟨0,ps.length,by omega,by omega,rfl,rfl,hide (by omega),hide (by omega),YAC _ _⟩
 case round=>
  obtain⟨m,n,hmn,hnp,rfl,rfl,HLO,HHI,hnx⟩:=hrel;have hsz:=hnx.size;have BWR:Below w.heap.size w wr:=BX.trans (hnx.mono (by omega));by_cases hlt:m<n
  ·have hmi:(m:Int)<(n:Int):=by omega
   have hw1:IntKind.i64.wrap ((m:Int)+(n:Int))=(m:Int)+(n:Int):=ZaH _ (by omega) (by omega);go_wp2;obtain⟨k,hk⟩:∃ k:Nat,k=(m+n) / 2:=⟨_,rfl⟩;have hke:((m:Int)+(n:Int)) / 2=(k:Int):=by omega
   rw [hke];have hkm:m<=k:=by omega
   have hkn:k<n:=by omega
   have hki:(0:Int)<=(k:Int):=by omega
   have hkj:(k:Int)<(ps.length:Int):=by omega
   clear hk hke hw1;obtain⟨p,hp⟩:∃ p,ps[k]? = some p:=⟨ps[k],YAA (by omega)⟩;obtain⟨b,off,cap',hve,hbb,c0,c1,c2,hnr⟩:=HV.out.cells k p hp;cases hve;obtain⟨pa,pc,hpn⟩:=hnr.shape;rw [hpn] at c2;replace c0:=(BWR.cell (YAB hbb hhi)).trans c0;replace c1:=(BWR.cell (YAB hbb hhi)).trans c1;replace c2:=(BWR.cell (YAB hbb hhi)).trans c2;have hxx:=(hnx.block _ (Zab HX.out)).trans HX.out;have d0:=Zaa hxx 0;have d1:=Zaa hxx 1;have d2:=Zaa hxx 2;simp at d0 d1 d2;have hb1:b<wr.heap.size:=by omega
   have hb2:w.heap.size<wr.heap.size:=by omega
   have hq:=fun W=>ZfN p.2 r.2 p.1 r.1 W;unfold wayC at hq;rw [hpn,HRN.out] at hq;obtain⟨x,hx⟩:∃ x,x=cmpN p.1.to r.1.to:=⟨_,rfl⟩;rw [<-hx] at hq;have HK:=hide hq;have HXV:=hide hx;have HPP:=hide (ZcQ hp);clear hq hx hp hxx hnr hpn;by_cases hx0:x<0
   ·have HLO2:=hide (show ∀ t,t<k+1->ltW (Zaj ps) r.1 t from fun t ht=>HM.out t k (by omega) (by omega) ((ZrA HPP.out).2 (ZdO.1 (by rw [<-HXV.out];exact hx0))))
    go_region_held3 (fun W=>W.cell? ⟨b,off+k*3,none⟩=some (.int .i64 p.1.to)/\W.cell? ⟨b,off+k*3+1,none⟩=some (.int .i64 p.1.cost)/\W.cell? ⟨b,off+k*3+2,none⟩=some (.slice pa p.1.hops.length pc)/\W.cell? ⟨w.heap.size,0,none⟩=some (.int .i64 r.1.to)/\W.cell? ⟨w.heap.size,1,none⟩=some (.int .i64 r.1.cost)/\W.cell? ⟨w.heap.size,2,none⟩=some (.slice ra r.1.hops.length rc)) (first | go_keep | (refine ⟨?_,?_,?_,?_,?_,?_⟩ <;> (rw [hbc.cell (by assumption)];assumption))) (first | (go_at_call 125;refine (HK.out _).mono ?_;rintro e w1 ⟨rfl,hbc⟩))
    go_wp2;go_roundw
    case rel=>exact ⟨k+1,n,by omega,by omega,by go_num,rfl,HLO2,HHI,hnx.trans ((YAC _ _).drew.trans (hbc.mono hsz))⟩
    case measure=>simp [intOf];omega
   ·have HHI2:=hide (show ∀ t,k<=t->t<ps.length->¬ltW (Zaj ps) r.1 t from fun t h1 h2 h3=>hx0 (by rw [HXV.out];exact ZdO.2 ((ZrA HPP.out).1 (HM.out k t h1 h2 h3))))
    go_region_held3 (fun W=>W.cell? ⟨b,off+k*3,none⟩=some (.int .i64 p.1.to)/\W.cell? ⟨b,off+k*3+1,none⟩=some (.int .i64 p.1.cost)/\W.cell? ⟨b,off+k*3+2,none⟩=some (.slice pa p.1.hops.length pc)/\W.cell? ⟨w.heap.size,0,none⟩=some (.int .i64 r.1.to)/\W.cell? ⟨w.heap.size,1,none⟩=some (.int .i64 r.1.cost)/\W.cell? ⟨w.heap.size,2,none⟩=some (.slice ra r.1.hops.length rc)) (first | go_keep | (refine ⟨?_,?_,?_,?_,?_,?_⟩ <;> (rw [hbc.cell (by assumption)];assumption))) (first | (go_at_call 125;refine (HK.out _).mono ?_;rintro e w1 ⟨rfl,hbc⟩))
    go_wp2;go_roundw
    case rel=>exact ⟨m,k,by omega,by omega,rfl,rfl,HLO,HHI2,hnx.trans ((YAC _ _).drew.trans (hbc.mono hsz))⟩
    case measure=>simp [intOf];omega
  ·have hmn2:m=n:=by omega
   subst hmn2;by_cases hend:m<ps.length
   ·have hmi:(0:Int)<=(m:Int):=by omega
    have hmj:(m:Int)<(ps.length:Int):=by omega
    obtain⟨p,hp⟩:∃ p,ps[m]? = some p:=⟨ps[m],YAA (by omega)⟩;obtain⟨b,off,cap',hve,hbb,c0,c1,c2,hnr⟩:=HV.out.cells m p hp;cases hve;obtain⟨pa,pc,hpn⟩:=hnr.shape;rw [hpn] at c2;replace c0:=(BWR.cell (YAB hbb hhi)).trans c0;replace c1:=(BWR.cell (YAB hbb hhi)).trans c1;replace c2:=(BWR.cell (YAB hbb hhi)).trans c2;have hxx:=(hnx.block _ (Zab HX.out)).trans HX.out;have d0:=Zaa hxx 0;have d1:=Zaa hxx 1;have d2:=Zaa hxx 2;simp at d0 d1 d2;have hb1:b<wr.heap.size:=by omega
    have hb2:w.heap.size<wr.heap.size:=by omega
    have hq:=fun W=>ZfN p.2 r.2 p.1 r.1 W;unfold wayC at hq;rw [hpn,HRN.out] at hq;obtain⟨x,hx⟩:∃ x,x=cmpN p.1.to r.1.to:=⟨_,rfl⟩;rw [<-hx] at hq;have HK:=hide hq;have HXV:=hide hx;have HPP:=hide (ZcQ hp);clear hq hx hp hxx hnr hpn;have hfin:(x==0)=true↔∃ y,(Zaj ps)[m]? = some y/\y.to=r.1.to:=by
     rw [HPP.out];constructor
     ·intro h;exact⟨p.1,rfl,Zba.1 (by rw [<-HXV.out];simpa using h)⟩
     ·rintro ⟨y,hy,he⟩;cases hy;rw [HXV.out];simpa using Zba.2 he
    have HFIN:=hide hfin;clear hfin;go_wp2
    go_region_held3 (fun W=>W.cell? ⟨b,off+m*3,none⟩=some (.int .i64 p.1.to)/\W.cell? ⟨b,off+m*3+1,none⟩=some (.int .i64 p.1.cost)/\W.cell? ⟨b,off+m*3+2,none⟩=some (.slice pa p.1.hops.length pc)/\W.cell? ⟨w.heap.size,0,none⟩=some (.int .i64 r.1.to)/\W.cell? ⟨w.heap.size,1,none⟩=some (.int .i64 r.1.cost)/\W.cell? ⟨w.heap.size,2,none⟩=some (.slice ra r.1.hops.length rc)) (first | go_keep | (refine ⟨?_,?_,?_,?_,?_,?_⟩ <;> (rw [hbc.cell (by assumption)];assumption))) (first | (go_at_call 125;refine (HK.out _).mono ?_;rintro e w1 ⟨rfl,hbc⟩))
    go_wp2
    go_returns
    exact⟨m,x==0,rfl,by omega,HLO.out,HHI.out,HFIN.out,BWR.trans ((YAC _ _).drew.trans (hbc.mono (show w.heap.size<=wr.heap.size by omega)))⟩
   ·have hme:¬(m:Int)<(ps.length:Int):=by omega
    have HNO:=hide (show (false=true↔∃ y,(Zaj ps)[m]? = some y/\y.to=r.1.to) from ⟨(fun h=>by cases h),(fun ⟨y,hy,_⟩=>by rw [List.getElem?_eq_none (by simp [Zaj];omega)] at hy;cases hy)⟩);go_wp2
    go_quiet (fail)
    go_wp2
    go_returns
    exact⟨m,false,rfl,by omega,HLO.out,HHI.out,HNO.out,BWR.trans ⟨rfl,rfl,rfl,YA _,fun _ _=>rfl⟩⟩
def Zgf:Array Oper:=#[{ dst:=some 14,op:=Op.move (Operand.tmp 0),type:=102,pos := "l07_route.go:51",after:=#[],guard:=none }, { dst:=some 15,op:=Op.move (Operand.tmp 5),type:=3,pos := "l07_route.go:51",after:=#[],guard:=none }, { dst:=some 16,op:=Op.move (Operand.tmp 0),type:=102,pos := "l07_route.go:51",after:=#[],guard:=none }, { dst:=some 17,op:=Op.move (Operand.tmp 5),type:=3,pos := "l07_route.go:51",after:=#[],guard:=none }, { dst:=some 18,op:=Op.indexAddr 102 (Operand.tmp 16) (Operand.tmp 17),type:=0,pos := "l07_route.go:51",after:=#[{ on:=2,ground:=Ground.data }, { on:=3,ground:=Ground.data }],guard:=none }, { dst:=some 19,op:=Op.load 108 (Operand.tmp 18),type:=108,pos := "l07_route.go:51",after:=#[{ on:=4,ground:=Ground.data }],guard:=none }, { dst:=some 20,op:=Op.load 108 (Operand.tmp 3),type:=108,pos := "l07_route.go:51",after:=#[],guard:=none }, { dst:=some 21,op:=Op.call { callee:=Callee.value (Operand.func 126),args:=#[Operand.tmp 19,Operand.tmp 20],argTypes:=#[108,108] },type:=108,pos := "l07_route.go:51",after:=#[{ on:=5,ground:=Ground.data }, { on:=6,ground:=Ground.data }],guard:=none }, { dst:=some 22,op:=Op.indexAddr 102 (Operand.tmp 14) (Operand.tmp 15),type:=0,pos := "l07_route.go:51",after:=#[{ on:=0,ground:=Ground.data }, { on:=1,ground:=Ground.data }, { on:=0,ground:=Ground.phase }, { on:=1,ground:=Ground.phase }, { on:=2,ground:=Ground.phase }, { on:=3,ground:=Ground.phase }, { on:=4,ground:=Ground.phase }, { on:=5,ground:=Ground.phase }, { on:=6,ground:=Ground.phase }, { on:=7,ground:=Ground.phase }],guard:=none }, { dst:=none,op:=Op.store 108 (Operand.tmp 22) (Operand.tmp 21),type:=0,pos := "l07_route.go:51",after:=#[{ on:=8,ground:=Ground.data }, { on:=7,ground:=Ground.data }, { on:=7,ground:=Ground.chain }, { on:=0,ground:=Ground.phase }, { on:=1,ground:=Ground.phase }, { on:=2,ground:=Ground.phase }, { on:=3,ground:=Ground.phase }, { on:=4,ground:=Ground.phase }, { on:=5,ground:=Ground.phase }, { on:=6,ground:=Ground.phase }, { on:=7,ground:=Ground.phase }],guard:=none }]
theorem Zq3 (t1 t2 t4 t6 t7 t8 t9 t10 t11 t12 t13 t14 t15 t16 t17 t18 t19 t20 t21 t22 t23 t24 t25 t26 t27 t28:Value)(W0:World)(g n cap i zb:Nat)(x y q:WayD)(xa ya:Option Addr)(xl xc yl yc:Nat)(RR:World->Value->Prop)(Q:Exit->Act->World->Prop)(ops:Array Oper)(hops:Hid (ops=Zgf))(hpan:∀ c a1 a2 w,Q (.panic c) a1 w->Q (.panic c) a2 w)
  (hi0:(0:Int)<=(i:Int)) (hi:(i:Int)<(n:Int))
  (c0:W0.cell? ⟨g,i*3,none⟩=some (.int .i64 x.to)) (c1:W0.cell? ⟨g,i*3+1,none⟩=some (.int .i64 x.cost)) (c2:W0.cell? ⟨g,i*3+2,none⟩=some (.slice xa xl xc))
  (d0:W0.cell? ⟨zb,0,none⟩=some (.int .i64 y.to)) (d1:W0.cell? ⟨zb,1,none⟩=some (.int .i64 y.cost)) (d2:W0.cell? ⟨zb,2,none⟩=some (.slice ya yl yc))
  (HT:Hid (Calls Tryz.prog 126 #[.agg #[.int .i64 x.to,.int .i64 x.cost,.slice xa xl xc],.agg #[.int .i64 y.to,.int .i64 y.cost,.slice ya yl yc]] W0 fun e w'=>∃ ua ul uc,e=.returned (.agg #[.int .i64 q.to,.int .i64 q.cost,.slice ua ul uc])/\RR w' (.slice ua ul uc)))
  (hcell:∀ W u,RR W u->∃ y0 y1 y2,W.cell? ⟨g,i*3,none⟩=some y0/\W.cell? ⟨g,i*3+1,none⟩=some y1/\W.cell? ⟨g,i*3+2,none⟩=some y2)
  (hfz:∀ W u,RR W u->∀ j,W.frozen? ⟨g,j,none⟩=false)
  (hend:∀ (W:World) ua ul uc,RR W (.slice ua ul uc)->Q .normal { tmps:=#[.slice (some ⟨g,0,none⟩) n cap,t1,t2,.pointer (some ⟨zb,0,none⟩),t4,.int .i64 (i:Int),t6,t7,t8,t9,t10,t11,t12,t13,.slice (some ⟨g,0,none⟩) n cap,.int .i64 (i:Int),.slice (some ⟨g,0,none⟩) n cap,.int .i64 (i:Int),.pointer (some ⟨g,i*3,none⟩),.agg #[.int .i64 x.to,.int .i64 x.cost,.slice xa xl xc],.agg #[.int .i64 y.to,.int .i64 y.cost,.slice ya yl yc],.agg #[.int .i64 q.to,.int .i64 q.cost,.slice ua ul uc],.pointer (some ⟨g,i*3,none⟩),t23,t24,t25,t26,t27,t28],defers:=[] } (putW W g (i*3) (q,.slice ua ul uc))):
  wpAnyH Tryz.prog .any ops Q (fun _=>True) 10 (Array.replicate 10 false) { tmps:=#[.slice (some ⟨g,0,none⟩) n cap,t1,t2,.pointer (some ⟨zb,0,none⟩),t4,.int .i64 (i:Int),t6,t7,t8,t9,t10,t11,t12,t13,t14,t15,t16,t17,t18,t19,t20,t21,t22,t23,t24,t25,t26,t27,t28],defers:=[] } W0:=by
 have h7:∀ W ua ul uc,RR W (.slice ua ul uc)->wpAnyH Tryz.prog .any ops Q (fun _=>True) 2 #[true,true,true,true,true,true,true,true,false,false] { tmps:=#[.slice (some ⟨g,0,none⟩) n cap,t1,t2,.pointer (some ⟨zb,0,none⟩),t4,.int .i64 (i:Int),t6,t7,t8,t9,t10,t11,t12,t13,.slice (some ⟨g,0,none⟩) n cap,.int .i64 (i:Int),.slice (some ⟨g,0,none⟩) n cap,.int .i64 (i:Int),.pointer (some ⟨g,i*3,none⟩),.agg #[.int .i64 x.to,.int .i64 x.cost,.slice xa xl xc],.agg #[.int .i64 y.to,.int .i64 y.cost,.slice ya yl yc],.agg #[.int .i64 q.to,.int .i64 q.cost,.slice ua ul uc],t22,t23,t24,t25,t26,t27,t28],defers:=[] } W:=by
  intro W ua ul uc hr;obtain⟨y0,y1,y2,f0,f1,f2⟩:=hcell W _ hr;have fz:=hfz W _ hr;refine Zbs 8 ?_ ?_ ?_ (by rw [hops.out];kernel_rfl) ?_ ?_ trivial ?_
  rotate_left 2
  ·rw [hops.out];unfold Zgf;simp only [getS];rfl
  ·intro W _;go_simp <;> with_reducible rfl
  ·exact fun c _ w h=>hpan c _ _ w h
  try simp only [putS]
  refine wpAnyH_ready (rs:=[9]) (by rw [hops.out];kernel_rfl) (by simp) ?_;refine AllReadyH.cons (o:=?_) ?_ (fun K hK=>?_) ?_
  rotate_left 1
  ·rw [hops.out];unfold Zgf;simp only [getS];rfl
  ·rw [if_pos (by rfl)];go_simp;refine hK.out _ _ trivial (fun _=>?_);refine wpAnyH_done (by rw [hops.out];kernel_rfl) ?_ _;exact hend W ua ul uc hr
  exact AllReadyH.nil
 have h56:wpAnyH Tryz.prog .any ops Q (fun _=>True) 3 #[true,true,true,true,true,true,true,false,false,false] { tmps:=#[.slice (some ⟨g,0,none⟩) n cap,t1,t2,.pointer (some ⟨zb,0,none⟩),t4,.int .i64 (i:Int),t6,t7,t8,t9,t10,t11,t12,t13,.slice (some ⟨g,0,none⟩) n cap,.int .i64 (i:Int),.slice (some ⟨g,0,none⟩) n cap,.int .i64 (i:Int),.pointer (some ⟨g,i*3,none⟩),.agg #[.int .i64 x.to,.int .i64 x.cost,.slice xa xl xc],.agg #[.int .i64 y.to,.int .i64 y.cost,.slice ya yl yc],t21,t22,t23,t24,t25,t26,t27,t28],defers:=[] } W0:=by
  refine wpAnyH_ready (rs:=[7]) (by rw [hops.out];kernel_rfl) (by simp) ?_;refine AllReadyH.cons (o:=?_) ?_ (fun K hK=>?_) ?_
  rotate_left 1
  ·rw [hops.out];unfold Zgf;simp only [getS];rfl
  ·rw [if_pos (by rfl)];go_simp;refine HT.out.mono ?_;rintro e w2 ⟨ua,ul,uc,rfl,hr⟩;refine hK.out _ _ trivial (fun _=>?_);exact h7 w2 ua ul uc hr
  exact AllReadyH.nil
 have h5:wpAnyH Tryz.prog .any ops Q (fun _=>True) 4 #[true,true,true,true,true,true,false,false,false,false] { tmps:=#[.slice (some ⟨g,0,none⟩) n cap,t1,t2,.pointer (some ⟨zb,0,none⟩),t4,.int .i64 (i:Int),t6,t7,t8,t9,t10,t11,t12,t13,.slice (some ⟨g,0,none⟩) n cap,.int .i64 (i:Int),.slice (some ⟨g,0,none⟩) n cap,.int .i64 (i:Int),.pointer (some ⟨g,i*3,none⟩),.agg #[.int .i64 x.to,.int .i64 x.cost,.slice xa xl xc],t20,t21,t22,t23,t24,t25,t26,t27,t28],defers:=[] } W0:=by
  refine wpAnyH_ready (rs:=[6]) (by rw [hops.out];kernel_rfl) (by simp) ?_;refine AllReadyH.cons (o:=?_) ?_ (fun K hK=>?_) ?_
  rotate_left 1
  ·rw [hops.out];unfold Zgf;simp only [getS];rfl
  ·rw [if_pos (by rfl)];go_simp;refine hK.out _ _ trivial (fun _=>?_);exact h56
  exact AllReadyH.nil
 have h6:wpAnyH Tryz.prog .any ops Q (fun _=>True) 4 #[true,true,true,true,true,false,true,false,false,false] { tmps:=#[.slice (some ⟨g,0,none⟩) n cap,t1,t2,.pointer (some ⟨zb,0,none⟩),t4,.int .i64 (i:Int),t6,t7,t8,t9,t10,t11,t12,t13,.slice (some ⟨g,0,none⟩) n cap,.int .i64 (i:Int),.slice (some ⟨g,0,none⟩) n cap,.int .i64 (i:Int),.pointer (some ⟨g,i*3,none⟩),t19,.agg #[.int .i64 y.to,.int .i64 y.cost,.slice ya yl yc],t21,t22,t23,t24,t25,t26,t27,t28],defers:=[] } W0:=by
  refine wpAnyH_ready (rs:=[5]) (by rw [hops.out];kernel_rfl) (by simp) ?_;refine AllReadyH.cons (o:=?_) ?_ (fun K hK=>?_) ?_
  rotate_left 1
  ·rw [hops.out];unfold Zgf;simp only [getS];rfl
  ·rw [if_pos (by rfl)];go_simp;refine hK.out _ _ trivial (fun _=>?_);exact h56
  exact AllReadyH.nil
 show wpAnyH Tryz.prog .any ops Q (fun _=>True) 10 #[false,false,false,false,false,false,false,false,false,false] _ W0;refine Zbs 0 ?_ ?_ ?_ (by rw [hops.out];kernel_rfl) ?_ ?_ trivial ?_
 rotate_left 2
 ·rw [hops.out];unfold Zgf;simp only [getS];rfl
 ·intro W _;go_simp <;> with_reducible rfl
 ·exact fun c _ w h=>hpan c _ _ w h
 try simp only [putS]
 refine Zbs 1 ?_ ?_ ?_ (by rw [hops.out];kernel_rfl) ?_ ?_ trivial ?_
 rotate_left 2
 ·rw [hops.out];unfold Zgf;simp only [getS];rfl
 ·intro W _;go_simp <;> with_reducible rfl
 ·exact fun c _ w h=>hpan c _ _ w h
 try simp only [putS]
 refine Zbs 2 ?_ ?_ ?_ (by rw [hops.out];kernel_rfl) ?_ ?_ trivial ?_
 rotate_left 2
 ·rw [hops.out];unfold Zgf;simp only [getS];rfl
 ·intro W _;go_simp <;> with_reducible rfl
 ·exact fun c _ w h=>hpan c _ _ w h
 try simp only [putS]
 refine Zbs 3 ?_ ?_ ?_ (by rw [hops.out];kernel_rfl) ?_ ?_ trivial ?_
 rotate_left 2
 ·rw [hops.out];unfold Zgf;simp only [getS];rfl
 ·intro W _;go_simp <;> with_reducible rfl
 ·exact fun c _ w h=>hpan c _ _ w h
 try simp only [putS]
 refine Zbs 4 ?_ ?_ ?_ (by rw [hops.out];kernel_rfl) ?_ ?_ trivial ?_
 rotate_left 2
 ·rw [hops.out];unfold Zgf;simp only [getS];rfl
 ·intro W _;go_simp <;> with_reducible rfl
 ·exact fun c _ w h=>hpan c _ _ w h
 try simp only [putS]
 refine wpAnyH_ready (rs:=[5,6]) (by rw [hops.out];kernel_rfl) (by simp) ?_;refine AllReadyH.cons (o:=?_) ?_ (fun K hK=>?_) ?_
 rotate_left 1
 ·rw [hops.out];unfold Zgf;simp only [getS];rfl
 ·rw [if_pos (by rfl)];go_simp;refine hK.out _ _ trivial (fun _=>?_);exact h5
 refine AllReadyH.cons (o:=?_) ?_ (fun K hK=>?_) ?_
 rotate_left 1
 ·rw [hops.out];unfold Zgf;simp only [getS];rfl
 ·rw [if_pos (by rfl)];go_simp;refine hK.out _ _ trivial (fun _=>?_);exact h6
 exact AllReadyH.nil
end Go.Proofs.YtikloccefmofdaaGreat
