/-
  Parts.
-/
import Derived.Test.YtdhnddfnckgbjaaGreatZi4
import Derived.Test.YtdhnddfnckgbjaaGreatShelfG
import Derived.Shelf.SlSortCmp.NoneTotal
namespace Go.Proofs.YtdhnddfnckgbjaaGreat
open Go.RowKit
set_option linter.unusedSimpArgs false
set_option linter.unusedVariables false
set_option maxRecDepth 100000
set_option maxHeartbeats 8000000
variable {z:Int}{ps:List RP}{hi k:Nat}{v:Value}{W W':World}
structure RecsIn (W:World) (hi:Nat) (v:Value) (ps:List RP):Prop where
 row:W.ownsRow 0 132 8 v ps.length (flat encP ps)
 top:∀ k,v.ownBlock=some k->k<hi
 nears:∀ p∈ps,ZaE W 0 hi p
theorem RecsOwn.in {lo:Nat}(h:RecsOwn W lo hi v ps):RecsIn W hi v ps:=⟨Zaf h.row (Nat.zero_le _),h.top,fun p hp=>(h.nears p hp).wide (Nat.zero_le _) (YA _)⟩
theorem RecsIn.keep (h:RecsIn W hi v ps)(hk:∀ k,k<hi->k<W.heap.size->W'.heap[k]? = W.heap[k]?):RecsIn W' hi v ps where
 row:=Zai h.row (fun k e=>hk k (h.top k e) (h.row.lt k e).2)
 top:=h.top
 nears:=fun p hp=>(h.nears p hp).keep (fun k _ h2 h3=>hk k h2 h3)
theorem RecsIn.below {B:Nat}(h:RecsIn W hi v ps)(hb:Below B W W')(hB:hi<=B):RecsIn W' hi v ps:=h.keep (fun k h2 _=>hb.block k (by omega))
theorem RecsIn.wide {hi':Nat}(h:RecsIn W hi v ps)(hh:hi<=hi'):RecsIn W hi' v ps:=⟨h.row,fun k e=>YAC (h.top k e) hh,fun p hp=>(h.nears p hp).wide (YA _) hh⟩
theorem RecsIn.at (h:RecsIn W hi v ps):ZbT W v ps hi:=by
 refine⟨?_,fun p hp=>(h.nears p hp).at⟩;have h1:=Zan h.row;obtain⟨a,cap,hv,h2⟩:=h1;refine⟨a,cap,hv,?_⟩;rcases h2 with h0 | ⟨b,off,ha,hb1,hx⟩
 ·exact .inl h0
 ·exact .inr ⟨b,off,ha,h.top b (by rw [hv,ha];rfl),hx⟩
theorem Zh7 (v:Value)(ps:List RP)(hi:Nat)(w:World)(hv:RecsIn w hi v ps)(hhi:hi<=w.heap.size)(hn:tot ps<=1048576):
  Calls Tryz.prog 83 #[v] w fun e w'=>∃ x qs,e=.returned x/\fsts qs=fsts ps/\RecsOwn w' w.heap.size w'.heap.size x qs/\Below w.heap.size w w':=by
 have hnl:=ZcB ps;obtain⟨a1,c1,rfl⟩:=Zac hv.row;have HV:=hide hv;clear hv;have R0:=hide (Zfz w w.heap.size (YA _));have B0:Below w.heap.size w (w.alloc (.cells #[] 132)):=(YAB _ _).alloc (YA _) _
 go_enter Tryz.func83,Tryz.ntmps83
 go_wp2;generalize w.alloc (.cells #[] 132)=w0 at *
 go_loopw [4,3] (fun i o wr=>∃ (k:Nat) (qs:List RP) (u:Value),k<=ps.length/\i=.int .i64 k/\o=u/\fsts qs=fsts (ps.take k)/\RecsOwn wr w.heap.size wr.heap.size u qs/\Below w.heap.size w wr) (fun i _ _=>ps.length-(intOf i).toNat)
 case atStart=>exact ⟨0,[],_,by omega,rfl,rfl,by simp [fsts],R0.out,B0⟩
 case round=>
  obtain⟨k,qs,u,hk,rfl,rfl,hmap,hown,hnx⟩:=hrel;obtain⟨ua,uc,rfl⟩:=Zac hown.row;have hsz:=hnx.size;by_cases hlt:k<ps.length
  ·obtain ⟨p,hp⟩:∃ p,ps[k]? = some p:=⟨ps[k],YAA hlt⟩;have hat:=HV.out.at;obtain⟨b,off,cap',hve,hbb,c0,c1,c2,c3,c4,c5,c6,c7,_⟩:=hat.cells k p hp;cases hve;replace c0:=(hnx.cell (YAC hbb hhi)).trans c0;replace c1:=(hnx.cell (YAC hbb hhi)).trans c1;replace c2:=(hnx.cell (YAC hbb hhi)).trans c2;replace c3:=(hnx.cell (YAC hbb hhi)).trans c3;replace c4:=(hnx.cell (YAC hbb hhi)).trans c4;replace c5:=(hnx.cell (YAC hbb hhi)).trans c5;replace c6:=(hnx.cell (YAC hbb hhi)).trans c6;replace c7:=(hnx.cell (YAC hbb hhi)).trans c7;have hno:=(HV.out.nears p (YAF hp)).keep (W':=wr) (fun j _ h2 _=>hnx.block j (by omega));obtain⟨pa,pc,hpn⟩:=Zac hno.1;have HC:=Zlu p.1 p.2 0 wr hno.1 (by have:=ZjA (YAF hp);omega);unfold recC at HC;rw [hpn] at c5 HC;have HCP:=hide HC;have HP:=hide hp;have HM:=hide hmap;have OW:=hide hown;have HQL:=hide (show qs.length<=1048576 by
    have h1:=congrArg List.length hmap;simp [fsts] at h1;omega)
   clear hp hmap hown hno hpn HC hat;have hki:(0:Int)<=(k:Int):=by omega
   have hkj:(k:Int)<(ps.length:Int):=by omega
   go_wp2_with fail
   refine HCP.out.mono ?_;rintro e w2 ⟨v1,rfl,hn2,b2⟩;obtain⟨n1a,n1c,rfl⟩:=Zac hn2;have b2s:=b2.size
   go_wp2_with (first
    | (at_builtin;refine Zay Zb7 (by omega) (by omega) _ rfl _ _ 104 rfl w.heap.size 132 Tryz.underlying104 (.agg (recC Zb3 (.slice none 0 0))) rfl Tryz.infoRec _ qs (p.1,.slice n1a p.1.near.length n1c) (Zci _ _ _ _) rfl ((Zad OW.out.row b2 (YA _)).alloc _) ⟨w2.heap.size,0,none⟩ 1 rfl (Zak (cs:=encP (p.1,.slice n1a p.1.near.length n1c))) (by have:=HQL.out;omega) (by simp;omega) ?_))
   intro v' w4 hown' hgrow;have ow4:=OW.out.push (p:=(p.1,.slice n1a p.1.near.length n1c)) (b2.alloc b2.size _) (by omega) (ZaE.wide (ZaE.keep ⟨hn2,fun k hk=>(hn2.lt k hk).2⟩ (fun j _ _ h3=>YAI _ _ _ h3)) (YA _) (by simp)) hown' hgrow;obtain⟨va,vc,rfl⟩:=Zac hown';have B4:Below w.heap.size w w4:=((hnx.trans (b2.mono hsz)).alloc (by omega) _).grown hgrow (by simp;omega) (fun k hk=>(OW.out.row.lt k hk).1);have OW4:=hide ow4;clear ow4 hown' hgrow hn2;go_wp2;go_roundw
   case rel=>exact ⟨k+1,qs++[(p.1,.slice n1a p.1.near.length n1c)],_,by omega,by go_num,rfl,by rw [show fsts (ps.take (k+1))=fsts (ps.take k)++[p.1] from map_take HP.out, <-HM.out];simp [fsts],OW4.out,B4⟩
   case measure=>simp [intOf];omega
  ·have hkn:k=ps.length:=by omega
   have KN:=hide hkn;have OW:=hide hown;have HM:=hide hmap;clear hkn hown hmap;go_wp2;go_ret;have h1:=HM.out;rw [KN.out,YAX] at h1
   first
    | exact ⟨_,qs,rfl,h1,OW.out,hnx⟩
    | exact ⟨_,rfl,qs,h1,OW.out,hnx⟩
def ordR (x y:RecD):Int:=cmpK (cmpN x.area y.area) (cmpN x.kind y.kind) (cmpN x.owner y.owner) (cmpN x.key y.key)
theorem Zj2 (x y:RecD):decide (ordR x y<0)=Zat x y:=ZmO x y
def ZaN (xs:List RecD):Bool:=decide (xs.length<=150)&&ZcE Za7 xs&&ascB ordR xs
theorem Zk1 {xs:List RecD}(h:¬xs.length<=150):ZaN xs=false:=by unfold ZaN;rw [YAo h];rfl
theorem Zmm {xs:List RecD}(hk:k<xs.length)(h:okAt Za7 xs k=false):ZaN xs=false:=by unfold ZaN ZcE;rw [Zbk hk h];simp
theorem ZnK {l:List Int}{y:Int}(h:l[k]? = some y)(hn:z ∉ l.take k)(hz:z≠y):z ∉ l.take (k+1):=by
 obtain⟨hk,e⟩:=YAD.1 h;rw [YAJ hk,e];simp [hn,hz]
theorem Zmf (v:Value)(l:List Int)(z:Int)(w:World)(hn:l.length<=1048576)(hv:Zal w v l w.heap.size):
  Calls Tryz.prog 124 #[v,.int .i64 z] w fun e w'=>e=.returned (.bool (decide (z∈l)))/\Below w.heap.size w w':=by
 obtain⟨R,hR⟩:∃ R,R=decide (z∈l):=⟨_,rfl⟩;rw [<-hR];have HR:=hide hR;clear hR;obtain⟨a,cap,rfl⟩:=hv.shape;have HV:=hide hv;clear hv
 go_enter Tryz.func124,Tryz.ntmps124
 go_wp2
 go_loopw [5] (fun i wr=>∃ k:Nat,k<=l.length/\i=.int .i64 k/\Hid (z ∉ l.take k)/\Below w.heap.size w wr) (fun i _=>l.length-(intOf i).toNat)
 case atStart=>exact ⟨0,by omega,rfl,hide (by simp),YAB _ _⟩
 case round=>
  obtain⟨k,hk,rfl,HNO,hnx⟩:=hrel;by_cases hlt:k<l.length
  ·obtain ⟨y,hy⟩:∃ y,l[k]? = some y:=⟨l[k],YAA hlt⟩;obtain⟨b,off,cap',hve,hbb,c0⟩:=HV.out.cell k y hy;cases hve;replace c0:=(hnx.cell hbb).trans c0;have hki:(0:Int)<=(k:Int):=by omega
   have hkj:(k:Int)<(l.length:Int):=by omega
   by_cases hzy:z=y
   ·subst hzy;have HF:=hide (show R=true by rw [HR.out];exact YAi (YAF hy));clear hy;go_wp2
    (try go_quiet (fail))
    (try go_wp2)
    go_ret;exact⟨Zao HF.out,by first | exact hnx | exact hnx.trans ⟨rfl,rfl,rfl,YA _,fun _ _=>rfl⟩⟩
   ·have HN:=hide (ZnK hy HNO.out hzy);have hyz:¬y=z:=fun e=>hzy e.symm;have hd:(y==z)=false:=by simpa using hyz
    clear hy;go_wp2
    (try go_quiet (fail))
    (try go_wp2)
    go_roundw
    case rel=>exact ⟨k+1,by omega,by go_num,HN,by first | exact hnx | exact hnx.trans ⟨rfl,rfl,rfl,YA _,fun _ _=>rfl⟩⟩
    case measure=>simp [intOf];omega
  ·have HF:=hide (show R=false by
    rw [HR.out];have h:=HNO.out;rw [YAc (by omega)] at h;exact YAo h)
   go_wp2;go_ret;exact⟨Zao HF.out,hnx⟩
def addT (a b:List Int):Nat->List Int
 | 0=>[]
 | k+1=>addT a b k++(if (k:Int)+1∈a\/(k:Int)+1∈b then [(k:Int)+1] else [])
def addL (a b:List Int):List Int:=addT a b 6
theorem Zhh (a b:List Int)(k:Nat):(addT a b k).length<=k:=by
 induction k with
 | zero=>simp [addT]
 | succ k ih=>
  unfold addT;rw [YAM]
  split <;> simp <;> omega
theorem Zbt (v1 v2:Value)(xs ys:List Int)(w:World)(hx:xs.length<=1048576)(hy:ys.length<=1048576)(h1:Zal w v1 xs w.heap.size)(h2:Zal w v2 ys w.heap.size):
  Calls Tryz.prog 113 #[v1,v2] w fun e w'=>∃ x,e=.returned x/\w'.ownsRow w.heap.size 3 1 x (addL xs ys).length (flat intE (addL xs ys))/\Below w.heap.size w w':=by
 obtain⟨a1,c1,rfl⟩:=h1.shape;obtain⟨a2,c2,rfl⟩:=h2.shape;have HI1:=hide (fun z W (hb:Below w.heap.size w W)=>Zmf (.slice a1 xs.length c1) xs z W hx ((Zau.later h1 hb (YA _)).more hb.size));have HI2:=hide (fun z W (hb:Below w.heap.size w W)=>Zmf (.slice a2 ys.length c2) ys z W hy ((Zau.later h2 hb (YA _)).more hb.size));have O0:=hide (Zck w w.heap.size w.heap.size rfl (YA _));have B0:Below w.heap.size w (w.alloc (.cells #[] 3)):=(YAB _ _).alloc (YA _) _;clear h1 h2
 go_enter Tryz.func113,Tryz.ntmps113
 go_wp2;generalize w.alloc (.cells #[] 3)=w0 at *
 go_loopw [6,5] (fun i o wr=>∃ (k:Nat) (l:List Int) (u:Value),k<=6/\i=.int .i64 ((k:Int)+1)/\o=u/\Hid (l=addT xs ys k)/\wr.ownsRow w.heap.size 3 1 u l.length (flat intE l)/\Below w.heap.size w wr) (fun i _ _=>8-(intOf i).toNat)
 case atStart=>exact ⟨0,[],_,by omega,rfl,rfl,hide rfl,O0.out,B0⟩
 case round=>
  obtain⟨k,l,u,hk,rfl,rfl,HL,hown,hnx⟩:=hrel;obtain⟨ua,uc,rfl⟩:=Zac hown;have hsz:=hnx.size;have hll:l.length<=6:=by rw [HL.out];have:=Zhh xs ys k;omega
  have OW:=hide hown;clear hown;by_cases hlt:k<6
  ·have hk6:(k:Int)+1<=6:=by omega
   have hw1:IntKind.i64.wrap ((k:Int)+1+1)=((k+1:Nat):Int)+1:=by rw [ZbF _ (by omega) (by omega)];omega
   obtain⟨P,hP⟩:∃ P,P=decide ((k:Int)+1∈xs):=⟨_,rfl⟩;obtain⟨Q,hQ⟩:∃ Q,Q=decide ((k:Int)+1∈ys):=⟨_,rfl⟩;have H1:=HI1.out ((k:Int)+1);have H2:=HI2.out ((k:Int)+1);rw [<-hP] at H1;rw [<-hQ] at H2;have J1:=hide H1;have J2:=hide H2;have HST:=hide (show addT xs ys (k+1)=l++(if P=true\/Q=true then [(k:Int)+1] else []) by
    rw [HL.out,hP,hQ];simp [addT])
   clear H1 H2 hP hQ HI1 HI2;cases P
   ·go_wp2_with fail
    refine (J1.out _ hnx).mono ?_;rintro e w2 ⟨rfl,b2⟩;have b2s:=b2.size
    go_wp2_with fail
    refine (J2.out _ (hnx.trans (b2.mono hsz))).mono ?_;rintro e w3 ⟨rfl,b3⟩;have b3s:=b3.size;have B3:Below wr.heap.size wr w3:=b2.trans (b3.mono b2s);clear b2 b3;cases Q
    ·have HN:=hide (show l=addT xs ys (k+1) by rw [HST.out];simp);have OW3:=hide (Zad OW.out B3 (YA _));go_wp2;go_roundw
     case rel=>exact ⟨k+1,l,_,by omega,rfl,rfl,HN,OW3.out,hnx.trans (B3.mono hsz)⟩
     case measure=>simp [intOf];omega
    ·have HN:=hide (show l++[(k:Int)+1]=addT xs ys (k+1) by rw [HST.out];simp)
     go_wp2_with (first
      | (at_builtin;refine Zay Zc8 (by omega) (by omega) _ rfl _ _ 37 rfl w.heap.size 3 Tryz.underlying37 (.int .i64 0) rfl Tryz.info3 _ l ((k:Int)+1) (Zcj _) rfl ((Zad OW.out B3 (YA _)).alloc _) ⟨w3.heap.size,0,none⟩ 1 rfl (Zak (cs:=intE ((k:Int)+1))) (by omega) (by simp;omega) ?_))
     intro v' w4 hown' hgrow;obtain⟨va,vc,rfl⟩:=Zac hown';have B4:Below w.heap.size w w4:=((hnx.trans (B3.mono hsz)).alloc (by omega) _).grown hgrow (by simp;omega) (fun j hj=>(OW.out.lt j hj).1);have OW4:=hide hown';clear hown' hgrow;go_wp2;go_roundw
     case rel=>exact ⟨k+1,l++[(k:Int)+1],_,by omega,rfl,rfl,HN,(by simpa using OW4.out),B4⟩
     case measure=>simp [intOf];omega
   ·have HN:=hide (show l++[(k:Int)+1]=addT xs ys (k+1) by rw [HST.out];simp)
    go_wp2_with fail
    refine (J1.out _ hnx).mono ?_;rintro e w3 ⟨rfl,B3⟩;have b3s:=B3.size
    go_wp2_with (first
     | (at_builtin;refine Zay Zc8 (by omega) (by omega) _ rfl _ _ 37 rfl w.heap.size 3 Tryz.underlying37 (.int .i64 0) rfl Tryz.info3 _ l ((k:Int)+1) (Zcj _) rfl ((Zad OW.out B3 (YA _)).alloc _) ⟨w3.heap.size,0,none⟩ 1 rfl (Zak (cs:=intE ((k:Int)+1))) (by omega) (by simp;omega) ?_))
    intro v' w4 hown' hgrow;obtain⟨va,vc,rfl⟩:=Zac hown';have B4:Below w.heap.size w w4:=((hnx.trans (B3.mono hsz)).alloc (by omega) _).grown hgrow (by simp;omega) (fun j hj=>(OW.out.lt j hj).1);have OW4:=hide hown';clear hown' hgrow;go_wp2;go_roundw
    case rel=>exact ⟨k+1,l++[(k:Int)+1],_,by omega,rfl,rfl,HN,(by simpa using OW4.out),B4⟩
    case measure=>simp [intOf];omega
  ·have hk6:¬(k:Int)+1<=6:=by omega
   have KN:=hide (show l=addL xs ys by rw [HL.out,show k=6 by omega];rfl);go_wp2;go_ret;have h:=OW.out;rw [KN.out] at h;exact⟨_,by rw [KN.out];rfl,h,hnx⟩
theorem ZaC {P:Program}{fn:Func}{p u:Tmp}{ty:TypeId}(h:fn.results=#[.cell p ty,.tmp u])(tmps:Array Value)(w:World)(g:Nat)(t:TypeId)(cs:Array Value)(fr:Nat × Nat)(d:TypeDesc)
  (hp:tmps.getD p undef=.pointer (some ⟨g,0,none⟩)) (hg:w.heap[g]? = some (.cells cs t fr))
  (hu:P.underlying ty=some d) (hd:(match d with | .struct _ | .array _ _=>true | _=>false)=true) (hi:(P.info? ty).map (·.size)=some cs.size):
  (results fn tmps).run P w=.ok (.tuple #[.agg cs,tmps.getD u undef]) w:=by
 have hp':tmps[p]?.getD undef=.pointer (some ⟨g,0,none⟩):=by simpa using hp
 rw [results_cell_tmp h];simp [hp',asAddr,run_loadVar_row w g t ty cs fr d hg hu hd hi]
def ZbE (xs:List WayD)(z:Int):WayD:=(xs.find? (fun x=>x.to==z)).getD Zce
def Zbb (xs:List WayD)(z:Int):Bool:=(xs.find? (fun x=>x.to==z)).isSome
theorem ZmA {ps:List WP}{p:WP}(h:ps[k]? = some p)(hno:∀ q∈ps.take k,q.1.to≠z)(hz:p.1.to=z):ZbE (Zam ps) z=p.1/\Zbb (Zam ps) z=true:=by
 have e:(Zam ps).find? (fun x=>x.to==z)=some p.1:=by
  have h1:=ZmV h;obtain⟨hk,e1⟩:=YAD.1 h1;rw [List.find?_eq_some_iff_append];refine⟨by simpa using hz,(Zam ps).take k,(Zam ps).drop (k+1),?_,?_⟩
  ·rw [<-e1, <-YAp hk,List.take_append_drop]
  ·intro x hx;have e2:(Zam ps).take k=Zam (ps.take k):=by simp [Zam]
   rw [e2] at hx;simp only [Zam,YAV] at hx;obtain⟨q,hq,rfl⟩:=hx;simpa using hno q hq
 unfold ZbE Zbb;rw [e];exact⟨rfl,rfl⟩
theorem Zk8 {ps:List WP}(hno:∀ q∈ps,q.1.to≠z):ZbE (Zam ps) z=Zce/\Zbb (Zam ps) z=false:=by
 have e:(Zam ps).find? (fun x=>x.to==z)=none:=by
  rw [List.find?_eq_none];intro x hx;simp only [Zam,YAV] at hx;obtain⟨q,hq,rfl⟩:=hx;simpa using hno q hq
 unfold ZbE Zbb;rw [e];exact⟨rfl,rfl⟩
theorem ZnJ {ps:List WP}{p:WP}(h:ps[k]? = some p)(hno:∀ q∈ps.take k,q.1.to≠z)(hz:p.1.to≠z):∀ q∈ps.take (k+1),q.1.to≠z:=by
 obtain⟨hk,e⟩:=YAD.1 h;rw [YAJ hk,e];intro q hq;rcases YAH.1 hq with h1 | h1
 ·exact hno q h1
 ·have:q=p:=by simpa using h1
  subst this;exact hz
theorem ZbY (v:Value)(ps:List WP)(lo hi:Nat)(z:Int)(w:World)(hv:WaysOwn w lo hi v ps)(hhi:hi<=w.heap.size)(hn:totW ps<=1048576):
  Calls Tryz.prog 108 #[v,.int .i64 z] w fun e w'=>∃ u,e=.returned (.tuple #[.agg (wayC (ZbE (Zam ps) z) u),.bool (Zbb (Zam ps) z)])/\w'.ownsRow w.heap.size 3 1 u (ZbE (Zam ps) z).hops.length (flat intE (ZbE (Zam ps) z).hops)/\Below w.heap.size w w':=by
 have hnl:=ZhN ps;obtain⟨D,hD⟩:∃ D,D=ZbE (Zam ps) z:=⟨_,rfl⟩;obtain⟨F,hF⟩:∃ F,F=Zbb (Zam ps) z:=⟨_,rfl⟩;rw [<-hD, <-hF];have HD:=hide hD;have HF:=hide hF;clear hD hF;obtain⟨a1,c1,rfl⟩:=Zac hv.row;have HV:=hide hv;clear hv;have BX:Below w.heap.size w (w.alloc (.cells #[.int .i64 0,.int .i64 0,.slice none 0 0] 144)):=(YAB _ _).alloc (YA _) _;have hq:=YAE w (.cells #[.int .i64 0,.int .i64 0,.slice none 0 0] 144);obtain⟨w0,hw0⟩:∃ W,W=w.alloc (.cells #[.int .i64 0,.int .i64 0,.slice none 0 0] 144):=⟨_,rfl⟩;rw [<-hw0] at BX hq;have hs0:=Zab hq;have HQ:=hide hq;clear hq;unfold wayC
 go_enter Tryz.func108,Tryz.ntmps108
 go_wp2;rw [<-hw0];clear hw0
 go_loopw [6] (fun i wr=>∃ k:Nat,k<=ps.length/\i=.int .i64 k/\Hid (∀ q∈ps.take k,q.1.to≠z)/\Below w0.heap.size w0 wr) (fun i _=>ps.length-(intOf i).toNat)
 case atStart=>exact ⟨0,by omega,rfl,hide (by simp),YAB _ _⟩
 case round=>
  obtain⟨k,hk,rfl,HNO,hnx⟩:=hrel;have hsz:=hnx.size;have BWR:Below w.heap.size w wr:=BX.trans (hnx.mono (by omega));have hz1:=(hnx.block _ hs0).trans HQ.out;by_cases hlt:k<ps.length
  ·obtain ⟨p,hp⟩:∃ p,ps[k]? = some p:=⟨ps[k],YAA hlt⟩;obtain⟨b,off,cp,hve,hbb,c0,c1,c2,_⟩:=HV.out.at.cells k p hp;cases hve;have hbw:b<w.heap.size:=by omega
   have hno:=HV.out.nears p (YAF hp);obtain⟨pa,pc,hpn⟩:=Zac hno.1;have HCP:=hide (fun W (hb:Below w.heap.size w W)=>ZfL p.1 p.2 lo W (Zad hno.1 hb (YA _)) (by have:=ZnS (YAF hp);omega));unfold wayC at HCP;rw [hpn] at c2 HCP;replace c0:=(BWR.cell hbw).trans c0;replace c1:=(BWR.cell hbw).trans c1;replace c2:=(BWR.cell hbw).trans c2;have hki:(0:Int)<=(k:Int):=by omega
   have hkj:(k:Int)<(ps.length:Int):=by omega
   by_cases hzz:p.1.to=z
   ·have hh:=ZmA hp HNO.out hzz;have hDe:D=p.1:=HD.out.trans hh.1;have hFe:F=true:=HF.out.trans hh.2;subst hDe hFe;subst hzz;clear hp hno hpn hh
    go_wp2_with fail
    refine (HCP.out _ BWR).mono ?_;rintro e w2 ⟨v1,rfl,hn2,b2⟩;obtain⟨na,nc,rfl⟩:=Zac hn2;have b2s:=b2.size;have hz2:=(b2.block _ (Zab hz1)).trans hz1;have u0:=Zaa hz2 0;have u1:=Zaa hz2 1;have u2:=Zaa hz2 2;simp at u0 u1 u2;have fu:=Zae hz2;have FF:=hide (Zid p.1 (.slice na p.1.hops.length nc) hz2);have G8:=ZbH w2 w.heap.size p.1 (.slice na p.1.hops.length nc);have O3:=hide (Zaf (b0:=w.heap.size) (hn2.kept G8 (by
     cases hv:(Value.slice na p.1.hops.length nc).ownBlock with
     | none=>exact .inl rfl
     | some g=>exact .inr (fun e=>by have:=(hn2.lt g hv).1;simp at e;omega))) (by omega))
    have B2:Below w.heap.size w w2:=BWR.trans (b2.mono (by omega));have BF:=hide (B2.grown G8 B2.size (fun k hk=>by simp at hk;omega));clear hz2 hn2 b2 G8 hz1
    go_wp2_with fail
    (try simp only [Exit.inBlock,Exit.then])
    refine bodyPost_ret (ZaC rfl _ _ w.heap.size 144 (wayC p.1 (.slice na p.1.hops.length nc)) (0,0) _ rfl FF.out Tryz.underlying144 rfl (by kernel_rfl)) rfl ?_;exact⟨_,rfl,O3.out,BF.out⟩
   ·have HN:=hide (ZnJ hp HNO.out hzz);have hd:(p.1.to==z)=false:=by simpa using hzz
    clear hp hno hpn hz1;go_wp2;go_roundw
    case rel=>exact ⟨k+1,by omega,by go_num,HN,hnx⟩
    case measure=>simp [intOf];omega
  ·have hh:=Zk8 (ps:=ps) (z:=z) (by have h:=HNO.out;rw [YAc (by omega)] at h;exact h);have hDe:D=Zce:=HD.out.trans hh.1;have hFe:F=false:=HF.out.trans hh.2;subst hDe hFe;have u0:=Zaa hz1 0;have u1:=Zaa hz1 1;have u2:=Zaa hz1 2;simp at u0 u1 u2;have fu:=Zae hz1;have FF:=hide (Zid Zce (.slice none 0 0) hz1);have G8:=hide (ZbH wr w.heap.size Zce (.slice none 0 0));clear hz1 hh
   go_wp2_with fail
   (try simp only [Exit.inBlock,Exit.then])
   refine bodyPost_ret (ZaC rfl _ _ w.heap.size 144 (wayC Zce (.slice none 0 0)) (0,0) _ rfl FF.out Tryz.underlying144 rfl (by kernel_rfl)) rfl ?_;exact⟨.slice none 0 0,rfl,YAj _ _ _ _,BWR.grown G8.out BWR.size (fun k hk=>by simp at hk;omega)⟩
def ZcU:Array Oper:=#[{ dst:=some 72,op:=Op.move (Operand.tmp 0),type:=104,pos := "l07_route.go:75",after:=#[],guard:=none }, { dst:=some 73,op:=Op.move (Operand.tmp 11),type:=164,pos := "l07_route.go:75",after:=#[],guard:=none }, { dst:=some 74,op:=Op.move (Operand.tmp 18),type:=3,pos := "l07_route.go:75",after:=#[],guard:=none }, { dst:=some 75,op:=Op.indexAddr 164 (Operand.tmp 73) (Operand.tmp 74),type:=0,pos := "l07_route.go:75",after:=#[{ on:=1,ground:=Ground.data }, { on:=2,ground:=Ground.data }],guard:=none }, { dst:=some 76,op:=Op.load 139 (Operand.tmp 75),type:=139,pos := "l07_route.go:75",after:=#[{ on:=3,ground:=Ground.data }],guard:=none }, { dst:=some 77,op:=Op.move (Operand.tmp 1),type:=37,pos := "l07_route.go:75",after:=#[],guard:=none }, { dst:=some 78,op:=Op.move (Operand.tmp 18),type:=3,pos := "l07_route.go:75",after:=#[],guard:=none }, { dst:=some 79,op:=Op.indexAddr 37 (Operand.tmp 77) (Operand.tmp 78),type:=0,pos := "l07_route.go:75",after:=#[{ on:=5,ground:=Ground.data }, { on:=6,ground:=Ground.data }],guard:=none }, { dst:=some 80,op:=Op.load 3 (Operand.tmp 79),type:=3,pos := "l07_route.go:75",after:=#[{ on:=7,ground:=Ground.data }],guard:=none }, { dst:=some 81,op:=Op.move (Operand.tmp 3),type:=3,pos := "l07_route.go:75",after:=#[],guard:=none }, { dst:=some 82,op:=Op.move (Operand.tmp 13),type:=3,pos := "l07_route.go:75",after:=#[],guard:=none }, { dst:=some 83,op:=Op.load 144 (Operand.tmp 16),type:=144,pos := "l07_route.go:75",after:=#[],guard:=none }, { dst:=some 84,op:=Op.move (Operand.tmp 17),type:=4,pos := "l07_route.go:75",after:=#[],guard:=none }, { dst:=some 85,op:=Op.call { callee:=Callee.value (Operand.func 110),args:=#[Operand.tmp 72,Operand.tmp 76,Operand.tmp 80,Operand.tmp 81,Operand.tmp 82,Operand.tmp 83,Operand.tmp 84],argTypes:=#[104,139,3,3,3,144,4] },type:=166,pos := "l07_route.go:75",after:=#[{ on:=0,ground:=Ground.data }, { on:=4,ground:=Ground.data }, { on:=8,ground:=Ground.data }, { on:=9,ground:=Ground.data }, { on:=10,ground:=Ground.data }, { on:=11,ground:=Ground.data }, { on:=12,ground:=Ground.data }],guard:=none }, { dst:=some 71,op:=Op.move (Operand.tmp 85),type:=166,pos := "l07_route.go:75",after:=#[{ on:=13,ground:=Ground.data }],guard:=none }, { dst:=some 86,op:=Op.extract (Operand.tmp 71) 0,type:=144,pos := "l07_route.go:75",after:=#[{ on:=14,ground:=Ground.data }],guard:=none }, { dst:=some 87,op:=Op.extract (Operand.tmp 71) 1,type:=4,pos := "l07_route.go:75",after:=#[{ on:=14,ground:=Ground.data }, { on:=17,ground:=Ground.gcOnly Departure.lateStores }],guard:=none }, { dst:=none,op:=Op.store 144 (Operand.tmp 16) (Operand.tmp 86),type:=0,pos := "l07_route.go:75",after:=#[{ on:=15,ground:=Ground.data }, { on:=13,ground:=Ground.chain }, { on:=0,ground:=Ground.phase }, { on:=1,ground:=Ground.phase }, { on:=2,ground:=Ground.phase }, { on:=3,ground:=Ground.phase }, { on:=4,ground:=Ground.phase }, { on:=5,ground:=Ground.phase }, { on:=6,ground:=Ground.phase }, { on:=7,ground:=Ground.phase }, { on:=8,ground:=Ground.phase }, { on:=9,ground:=Ground.phase }, { on:=10,ground:=Ground.phase }, { on:=11,ground:=Ground.phase }, { on:=12,ground:=Ground.phase }, { on:=13,ground:=Ground.phase }, { on:=14,ground:=Ground.phase }, { on:=15,ground:=Ground.phase }, { on:=16,ground:=Ground.textOnly Departure.lateStores }],guard:=none }, { dst:=some 17,op:=Op.assign (Operand.tmp 87),type:=4,pos := "l07_route.go:75",after:=#[{ on:=16,ground:=Ground.data }, { on:=17,ground:=Ground.chain }, { on:=0,ground:=Ground.phase }, { on:=1,ground:=Ground.phase }, { on:=2,ground:=Ground.phase }, { on:=3,ground:=Ground.phase }, { on:=4,ground:=Ground.phase }, { on:=5,ground:=Ground.phase }, { on:=6,ground:=Ground.phase }, { on:=7,ground:=Ground.phase }, { on:=8,ground:=Ground.phase }, { on:=9,ground:=Ground.phase }, { on:=10,ground:=Ground.phase }, { on:=11,ground:=Ground.phase }, { on:=12,ground:=Ground.phase }, { on:=13,ground:=Ground.phase }, { on:=14,ground:=Ground.phase }, { on:=15,ground:=Ground.phase }, { on:=16,ground:=Ground.phase }, { on:=17,ground:=Ground.phase }],guard:=none }]
theorem Zg1 (W:World)(z:Nat)(q:WayD)(u:Value)(b j:Nat)(h:b≠z):(ZbJ W z q u).cell? ⟨b,j,none⟩=W.cell? ⟨b,j,none⟩:=by
 have e:(ZbJ W z q u).heap[b]? = W.heap[b]? := by
  unfold ZbJ;rw [YAQ _ ⟨z,2,none⟩ _ _ h,YAQ _ ⟨z,1,none⟩ _ _ h,YAQ _ ⟨z,0,none⟩ _ _ h]
 simp only [World.cell?,e]
theorem Zlj (t2 t4 t5 t6 t7 t8 t9 t10 t12 t14 t15 t19 t20 t21 t22 t23 t24 t25 t26 t27 t28 t29 t30 t31 t32 t33 t34 t35 t36 t37 t38 t39 t40 t41 t42 t43 t44 t45 t46 t47 t48 t49 t50 t51 t52 t53 t54 t55 t56 t57 t58 t59 t60 t61 t62 t63 t64 t65 t66 t67 t68 t69 t70 t71 t72 t73 t74 t75 t76 t77 t78 t79 t80 t81 t82 t83 t84 t85 t86 t87 t88 t89 t90 t91 t92 t93:Value)(W0:World)(rv wv fv0:Value)(g n cap b off m acap z k:Nat)(area src to:Int)(x:WayD)(xa:Option Addr)(xl xc:Nat)(RR:World->WayD->Value->Value->Prop)(Q:Exit->Act->World->Prop)(ops:Array Oper)(hops:Hid (ops=ZcU))(hpan:∀ c a1 a2 w,Q (.panic c) a1 w->Q (.panic c) a2 w)
  (hk0:(0:Int)<=(k:Int)) (hkn:(k:Int)<(n:Int)) (hkm:(k:Int)<(m:Int))
  (hS:(fun W=>W.cell? ⟨g,k,none⟩=some wv/\W.cell? ⟨b,off+k,none⟩=some (.int .i64 area)) W0)
  (d0:W0.cell? ⟨z,0,none⟩=some (.int .i64 x.to)) (d1:W0.cell? ⟨z,1,none⟩=some (.int .i64 x.cost)) (d2:W0.cell? ⟨z,2,none⟩=some (.slice xa xl xc))
  (hgz:g≠z) (hbz:b≠z)
  (HT:Hid (Calls Tryz.prog 110 #[rv,wv,.int .i64 area,.int .i64 src,.int .i64 to,.agg #[.int .i64 x.to,.int .i64 x.cost,.slice xa xl xc],fv0] W0 fun e w'=>∃ (q:WayD) (ua:Option Addr) (ul uc:Nat) (fv:Value),e=.returned (.tuple #[.agg #[.int .i64 q.to,.int .i64 q.cost,.slice ua ul uc],fv])/\RR w' q (.slice ua ul uc) fv))
  (hSR:∀ W q u fv,RR W q u fv->(fun W=>W.cell? ⟨g,k,none⟩=some wv/\W.cell? ⟨b,off+k,none⟩=some (.int .i64 area)) W)
  (hcell:∀ W q u fv,RR W q u fv->∃ y0 y1 y2,W.cell? ⟨z,0,none⟩=some y0/\W.cell? ⟨z,1,none⟩=some y1/\W.cell? ⟨z,2,none⟩=some y2)
  (hfz:∀ W q u fv,RR W q u fv->∀ j,W.frozen? ⟨z,j,none⟩=false)
  (hend:∀ (W:World) (q:WayD) ua ul uc fv,RR W q (.slice ua ul uc) fv->Q .normal { tmps:=#[rv,.slice (some ⟨b,off,none⟩) m acap,t2,.int .i64 src,t4,t5,t6,t7,t8,t9,t10,.slice (some ⟨g,0,none⟩) n cap,t12,.int .i64 to,t14,t15,.pointer (some ⟨z,0,none⟩),fv,.int .i64 (k:Int),t19,t20,t21,t22,t23,t24,t25,t26,t27,t28,t29,t30,t31,t32,t33,t34,t35,t36,t37,t38,t39,t40,t41,t42,t43,t44,t45,t46,t47,t48,t49,t50,t51,t52,t53,t54,t55,t56,t57,t58,t59,t60,t61,t62,t63,t64,t65,t66,t67,t68,t69,t70,.tuple #[.agg #[.int .i64 q.to,.int .i64 q.cost,.slice ua ul uc],fv],rv,.slice (some ⟨g,0,none⟩) n cap,.int .i64 (k:Int),.pointer (some ⟨g,k,none⟩),wv,.slice (some ⟨b,off,none⟩) m acap,.int .i64 (k:Int),.pointer (some ⟨b,off+k,none⟩),.int .i64 area,.int .i64 src,.int .i64 to,.agg #[.int .i64 x.to,.int .i64 x.cost,.slice xa xl xc],fv0,.tuple #[.agg #[.int .i64 q.to,.int .i64 q.cost,.slice ua ul uc],fv],.agg #[.int .i64 q.to,.int .i64 q.cost,.slice ua ul uc],fv,t88,t89,t90,t91,t92,t93],defers:=[] } (ZbJ W z q (.slice ua ul uc))):
  wpAnyH Tryz.prog .any ops Q (fun W=>W.cell? ⟨g,k,none⟩=some wv/\W.cell? ⟨b,off+k,none⟩=some (.int .i64 area)) 19 (Array.replicate 19 false) { tmps:=#[rv,.slice (some ⟨b,off,none⟩) m acap,t2,.int .i64 src,t4,t5,t6,t7,t8,t9,t10,.slice (some ⟨g,0,none⟩) n cap,t12,.int .i64 to,t14,t15,.pointer (some ⟨z,0,none⟩),fv0,.int .i64 (k:Int),t19,t20,t21,t22,t23,t24,t25,t26,t27,t28,t29,t30,t31,t32,t33,t34,t35,t36,t37,t38,t39,t40,t41,t42,t43,t44,t45,t46,t47,t48,t49,t50,t51,t52,t53,t54,t55,t56,t57,t58,t59,t60,t61,t62,t63,t64,t65,t66,t67,t68,t69,t70,t71,t72,t73,t74,t75,t76,t77,t78,t79,t80,t81,t82,t83,t84,t85,t86,t87,t88,t89,t90,t91,t92,t93],defers:=[] } W0:=by
 have h13:∀ W (q:WayD) ua ul uc fv,RR W q (.slice ua ul uc) fv->wpAnyH Tryz.prog .any ops Q (fun W=>W.cell? ⟨g,k,none⟩=some wv/\W.cell? ⟨b,off+k,none⟩=some (.int .i64 area)) 5 #[true,true,true,true,true,true,true,true,true,true,true,true,true,true,false,false,false,false,false] { tmps:=#[rv,.slice (some ⟨b,off,none⟩) m acap,t2,.int .i64 src,t4,t5,t6,t7,t8,t9,t10,.slice (some ⟨g,0,none⟩) n cap,t12,.int .i64 to,t14,t15,.pointer (some ⟨z,0,none⟩),fv0,.int .i64 (k:Int),t19,t20,t21,t22,t23,t24,t25,t26,t27,t28,t29,t30,t31,t32,t33,t34,t35,t36,t37,t38,t39,t40,t41,t42,t43,t44,t45,t46,t47,t48,t49,t50,t51,t52,t53,t54,t55,t56,t57,t58,t59,t60,t61,t62,t63,t64,t65,t66,t67,t68,t69,t70,t71,rv,.slice (some ⟨g,0,none⟩) n cap,.int .i64 (k:Int),.pointer (some ⟨g,k,none⟩),wv,.slice (some ⟨b,off,none⟩) m acap,.int .i64 (k:Int),.pointer (some ⟨b,off+k,none⟩),.int .i64 area,.int .i64 src,.int .i64 to,.agg #[.int .i64 x.to,.int .i64 x.cost,.slice xa xl xc],fv0,.tuple #[.agg #[.int .i64 q.to,.int .i64 q.cost,.slice ua ul uc],fv],t86,t87,t88,t89,t90,t91,t92,t93],defers:=[] } W:=by
  intro W q ua ul uc fv hr;have hS:=hSR W _ _ _ hr;obtain⟨y0,y1,y2,f0,f1,f2⟩:=hcell W _ _ _ hr;have fz:=hfz W _ _ _ hr;refine ZbD 14 (oi:=?_) (v:=?_) ?_ (by rw [hops.out];kernel_rfl) ?_ ?_ ?_ hS ?_
  rotate_left 2
  ·rw [hops.out];unfold ZcU;simp only [getS];rfl
  ·rw [hops.out];kernel_rfl
  ·intro W hW;obtain⟨g1,g2⟩:=hW;go_simp <;> with_reducible rfl
  ·exact fun c _ w h=>hpan c _ _ w h
  try simp only [putS]
  refine ZbD 15 (oi:=?_) (v:=?_) ?_ (by rw [hops.out];kernel_rfl) ?_ ?_ ?_ hS ?_
  rotate_left 2
  ·rw [hops.out];unfold ZcU;simp only [getS];rfl
  ·rw [hops.out];kernel_rfl
  ·intro W hW;obtain⟨g1,g2⟩:=hW;go_simp <;> with_reducible rfl
  ·exact fun c _ w h=>hpan c _ _ w h
  try simp only [putS]
  refine ZbD 16 (oi:=?_) (v:=?_) ?_ (by rw [hops.out];kernel_rfl) ?_ ?_ ?_ hS ?_
  rotate_left 2
  ·rw [hops.out];unfold ZcU;simp only [getS];rfl
  ·rw [hops.out];kernel_rfl
  ·intro W hW;obtain⟨g1,g2⟩:=hW;go_simp <;> with_reducible rfl
  ·exact fun c _ w h=>hpan c _ _ w h
  try simp only [putS]
  refine wpAnyH_ready (rs:=[17]) (by rw [hops.out];kernel_rfl) (by simp) ?_;refine AllReadyH.cons (o:=?_) ?_ (fun K hK=>?_) ?_
  rotate_left 1
  ·rw [hops.out];unfold ZcU;simp only [getS];rfl
  ·rw [if_pos (by rfl)];go_simp;have hS2:(fun W=>W.cell? ⟨g,k,none⟩=some wv/\W.cell? ⟨b,off+k,none⟩=some (.int .i64 area)) (ZbJ W z q (.slice ua ul uc)):=by
    refine⟨?_,?_⟩
    ·show (ZbJ W z q (.slice ua ul uc)).cell? _=_;rw [Zg1 W z q _ _ _ hgz];exact hS.1
    ·show (ZbJ W z q (.slice ua ul uc)).cell? _=_;rw [Zg1 W z q _ _ _ hbz];exact hS.2
   refine hK.out _ _ hS2 (fun _=>?_);refine wpAnyH_ready (rs:=[18]) (by rw [hops.out];kernel_rfl) (by simp) ?_;refine AllReadyH.cons (o:=?_) ?_ (fun K hK=>?_) ?_
   rotate_left 1
   ·rw [hops.out];unfold ZcU;simp only [getS];rfl
   ·rw [if_pos (by rfl)];go_simp;refine hK.out _ _ hS2 (fun _=>?_);refine wpAnyH_done (by rw [hops.out];kernel_rfl) ?_ _;exact hend W q ua ul uc fv hr
   exact AllReadyH.nil
  exact AllReadyH.nil
 have h11:wpAnyH Tryz.prog .any ops Q (fun W=>W.cell? ⟨g,k,none⟩=some wv/\W.cell? ⟨b,off+k,none⟩=some (.int .i64 area)) 6 #[true,true,true,true,true,true,true,true,true,true,true,true,true,false,false,false,false,false,false] { tmps:=#[rv,.slice (some ⟨b,off,none⟩) m acap,t2,.int .i64 src,t4,t5,t6,t7,t8,t9,t10,.slice (some ⟨g,0,none⟩) n cap,t12,.int .i64 to,t14,t15,.pointer (some ⟨z,0,none⟩),fv0,.int .i64 (k:Int),t19,t20,t21,t22,t23,t24,t25,t26,t27,t28,t29,t30,t31,t32,t33,t34,t35,t36,t37,t38,t39,t40,t41,t42,t43,t44,t45,t46,t47,t48,t49,t50,t51,t52,t53,t54,t55,t56,t57,t58,t59,t60,t61,t62,t63,t64,t65,t66,t67,t68,t69,t70,t71,rv,.slice (some ⟨g,0,none⟩) n cap,.int .i64 (k:Int),.pointer (some ⟨g,k,none⟩),wv,.slice (some ⟨b,off,none⟩) m acap,.int .i64 (k:Int),.pointer (some ⟨b,off+k,none⟩),.int .i64 area,.int .i64 src,.int .i64 to,.agg #[.int .i64 x.to,.int .i64 x.cost,.slice xa xl xc],fv0,t85,t86,t87,t88,t89,t90,t91,t92,t93],defers:=[] } W0:=by
  refine wpAnyH_ready (rs:=[13]) (by rw [hops.out];kernel_rfl) (by simp) ?_;refine AllReadyH.cons (o:=?_) ?_ (fun K hK=>?_) ?_
  rotate_left 1
  ·rw [hops.out];unfold ZcU;simp only [getS];rfl
  ·rw [if_pos (by rfl)];go_simp;refine HT.out.mono ?_;rintro e w2 ⟨q,ua,ul,uc,fv,rfl,hr⟩;refine hK.out _ _ (hSR w2 _ _ _ hr) (fun _=>?_);exact h13 w2 q ua ul uc fv hr
  exact AllReadyH.nil
 show wpAnyH Tryz.prog .any ops Q (fun W=>W.cell? ⟨g,k,none⟩=some wv/\W.cell? ⟨b,off+k,none⟩=some (.int .i64 area)) 19 #[false,false,false,false,false,false,false,false,false,false,false,false,false,false,false,false,false,false,false] _ W0;refine ZbD 0 (oi:=?_) (v:=?_) ?_ (by rw [hops.out];kernel_rfl) ?_ ?_ ?_ hS ?_
 rotate_left 2
 ·rw [hops.out];unfold ZcU;simp only [getS];rfl
 ·rw [hops.out];kernel_rfl
 ·intro W hW;obtain⟨g1,g2⟩:=hW;go_simp <;> with_reducible rfl
 ·exact fun c _ w h=>hpan c _ _ w h
 try simp only [putS]
 refine ZbD 1 (oi:=?_) (v:=?_) ?_ (by rw [hops.out];kernel_rfl) ?_ ?_ ?_ hS ?_
 rotate_left 2
 ·rw [hops.out];unfold ZcU;simp only [getS];rfl
 ·rw [hops.out];kernel_rfl
 ·intro W hW;obtain⟨g1,g2⟩:=hW;go_simp <;> with_reducible rfl
 ·exact fun c _ w h=>hpan c _ _ w h
 try simp only [putS]
 refine ZbD 2 (oi:=?_) (v:=?_) ?_ (by rw [hops.out];kernel_rfl) ?_ ?_ ?_ hS ?_
 rotate_left 2
 ·rw [hops.out];unfold ZcU;simp only [getS];rfl
 ·rw [hops.out];kernel_rfl
 ·intro W hW;obtain⟨g1,g2⟩:=hW;go_simp <;> with_reducible rfl
 ·exact fun c _ w h=>hpan c _ _ w h
 try simp only [putS]
 refine ZbD 3 (oi:=?_) (v:=?_) ?_ (by rw [hops.out];kernel_rfl) ?_ ?_ ?_ hS ?_
 rotate_left 2
 ·rw [hops.out];unfold ZcU;simp only [getS];rfl
 ·rw [hops.out];kernel_rfl
 ·intro W hW;obtain⟨g1,g2⟩:=hW;go_simp <;> with_reducible rfl
 ·exact fun c _ w h=>hpan c _ _ w h
 try simp only [putS]
 refine ZbD 4 (oi:=?_) (v:=?_) ?_ (by rw [hops.out];kernel_rfl) ?_ ?_ ?_ hS ?_
 rotate_left 2
 ·rw [hops.out];unfold ZcU;simp only [getS];rfl
 ·rw [hops.out];kernel_rfl
 ·intro W hW;obtain⟨g1,g2⟩:=hW;go_simp <;> with_reducible rfl
 ·exact fun c _ w h=>hpan c _ _ w h
 try simp only [putS]
 refine ZbD 5 (oi:=?_) (v:=?_) ?_ (by rw [hops.out];kernel_rfl) ?_ ?_ ?_ hS ?_
 rotate_left 2
 ·rw [hops.out];unfold ZcU;simp only [getS];rfl
 ·rw [hops.out];kernel_rfl
 ·intro W hW;obtain⟨g1,g2⟩:=hW;go_simp <;> with_reducible rfl
 ·exact fun c _ w h=>hpan c _ _ w h
 try simp only [putS]
 refine ZbD 6 (oi:=?_) (v:=?_) ?_ (by rw [hops.out];kernel_rfl) ?_ ?_ ?_ hS ?_
 rotate_left 2
 ·rw [hops.out];unfold ZcU;simp only [getS];rfl
 ·rw [hops.out];kernel_rfl
 ·intro W hW;obtain⟨g1,g2⟩:=hW;go_simp <;> with_reducible rfl
 ·exact fun c _ w h=>hpan c _ _ w h
 try simp only [putS]
 refine ZbD 7 (oi:=?_) (v:=?_) ?_ (by rw [hops.out];kernel_rfl) ?_ ?_ ?_ hS ?_
 rotate_left 2
 ·rw [hops.out];unfold ZcU;simp only [getS];rfl
 ·rw [hops.out];kernel_rfl
 ·intro W hW;obtain⟨g1,g2⟩:=hW;go_simp <;> with_reducible rfl
 ·exact fun c _ w h=>hpan c _ _ w h
 try simp only [putS]
 refine ZbD 8 (oi:=?_) (v:=?_) ?_ (by rw [hops.out];kernel_rfl) ?_ ?_ ?_ hS ?_
 rotate_left 2
 ·rw [hops.out];unfold ZcU;simp only [getS];rfl
 ·rw [hops.out];kernel_rfl
 ·intro W hW;obtain⟨g1,g2⟩:=hW;go_simp <;> with_reducible rfl
 ·exact fun c _ w h=>hpan c _ _ w h
 try simp only [putS]
 refine ZbD 9 (oi:=?_) (v:=?_) ?_ (by rw [hops.out];kernel_rfl) ?_ ?_ ?_ hS ?_
 rotate_left 2
 ·rw [hops.out];unfold ZcU;simp only [getS];rfl
 ·rw [hops.out];kernel_rfl
 ·intro W hW;obtain⟨g1,g2⟩:=hW;go_simp <;> with_reducible rfl
 ·exact fun c _ w h=>hpan c _ _ w h
 try simp only [putS]
 refine ZbD 10 (oi:=?_) (v:=?_) ?_ (by rw [hops.out];kernel_rfl) ?_ ?_ ?_ hS ?_
 rotate_left 2
 ·rw [hops.out];unfold ZcU;simp only [getS];rfl
 ·rw [hops.out];kernel_rfl
 ·intro W hW;obtain⟨g1,g2⟩:=hW;go_simp <;> with_reducible rfl
 ·exact fun c _ w h=>hpan c _ _ w h
 try simp only [putS]
 refine ZbD 12 (oi:=?_) (v:=?_) ?_ (by rw [hops.out];kernel_rfl) ?_ ?_ ?_ hS ?_
 rotate_left 2
 ·rw [hops.out];unfold ZcU;simp only [getS];rfl
 ·rw [hops.out];kernel_rfl
 ·intro W hW;obtain⟨g1,g2⟩:=hW;go_simp <;> with_reducible rfl
 ·exact fun c _ w h=>hpan c _ _ w h
 try simp only [putS]
 refine wpAnyH_ready (rs:=[11]) (by rw [hops.out];kernel_rfl) (by simp) ?_;refine AllReadyH.cons (o:=?_) ?_ (fun K hK=>?_) ?_
 rotate_left 1
 ·rw [hops.out];unfold ZcU;simp only [getS];rfl
 ·rw [if_pos (by rfl)];go_simp;refine hK.out _ _ hS (fun _=>?_);exact h11
 exact AllReadyH.nil
theorem Zjx (l:Th):∀ u∈thE l,u.oneCell'=true:=by
 intro u hu;simp only [thE,YAR,List.not_mem_nil,or_false] at hu;rcases hu with rfl | rfl | rfl | rfl <;> rfl
def putT (ls:List Th)(l:Th):List Th:=ls.filter (fun x=>Zbh x l)++[l]++ls.filter (fun x=>Zbh l x)
theorem Znv (v:Value)(ls:List Th)(l:Th)(w:World)(hls:ls.length<=1000)(hv:Zbq w v ls w.heap.size):
  Calls Tryz.prog 57 #[v,thV l] w fun e w'=>∃ x,e=.returned x/\w'.ownsRow (w.heap.size+1) 103 4 x (putT ls l).length (flat thE (putT ls l))/\Below w.heap.size w w':=by
 obtain⟨a,cap,rfl⟩:=hv.shape;have HV:=hide hv;clear hv;obtain⟨la,lb,lc,lr⟩:=l;unfold thV;simp only []
 go_enter Tryz.func57,Tryz.ntmps57
 go_wp2
 go_loopw [5,6] (fun u i wr=>∃ k:Nat,k<=ls.length/\i=.int .i64 k/\wr.ownsRow (w.heap.size+1) 103 4 u ((ls.take k).filter (fun x=>Zbh x ⟨la,lb,lc,lr⟩)).length (flat thE ((ls.take k).filter (fun x=>Zbh x ⟨la,lb,lc,lr⟩)))/\Below w.heap.size w wr/\wr.heap[w.heap.size]? = some (.cells #[.int .i64 la,.int .i64 lb,.int .i64 lc,.bool lr] 103)) (fun _ i _=>ls.length-(intOf i).toNat)
 case atStart=>
  refine⟨0,by omega,rfl,?_,?_,?_⟩
  ·have h:=YAU (base:=w.heap.size+1) (e:=103) (size:=4) (w.alloc (.cells #[.int .i64 la,.int .i64 lb,.int .i64 lc,.bool lr] 103)) #[] 0 (by simp) (by decide) rfl;simpa [flat] using h
  ·exact ((YAB _ _).alloc (YA _) _).alloc (by simp) _
  ·rw [YAI _ _ _ (by simp),YAE]
 case round=>
  obtain⟨k,hk,rfl,hown,hb,hx⟩:=hrel;have hfl:=Zft (fun x=>Zbh x ⟨la,lb,lc,lr⟩) ls k;have hxl:=Zab hx;by_cases hlt:k<ls.length
  ·obtain ⟨x,hl⟩:∃ l,ls[k]? = some l:=⟨ls[k],YAA hlt⟩;obtain⟨b,off,cap',hve,hbb,c0,c1,c2,c3⟩:=HV.out.cells k x hl;cases hve;have d0:=c0;have d1:=c1;have d2:=c2;have d3:=c3;replace c0:=(hb.cell hbb).trans c0;replace c1:=(hb.cell hbb).trans c1;replace c2:=(hb.cell hbb).trans c2;replace c3:=(hb.cell hbb).trans c3;have g0:=Zaa hx 0;have g1:=Zaa hx 1;have g2:=Zaa hx 2;have g3:=Zaa hx 3;simp at g0 g1 g2 g3;have hzr:=hb.size;have hbr:b<wr.heap.size:=by omega
   have hki:(0:Int)<=(k:Int):=by omega
   have hkj:(k:Int)<(ls.length:Int):=by omega
   obtain⟨q,hq⟩:∃ q,q=Zbh x ⟨la,lb,lc,lr⟩:=⟨_,rfl⟩;have hah:=Ze6 x ⟨la,lb,lc,lr⟩;rw [<-hq] at hah;unfold thV at hah;have HAH:=hide hah;have OW:=hide hown;have HX:=hide hx;have HL:=hide hl;have HQ:=hide hq;have D0:=hide d0;have D1:=hide d1;have D2:=hide d2;have D3:=hide d3;clear hah hown hx hl hq d0 d1 d2 d3;go_wp2
   go_region_held3 (fun W=>W.cell? ⟨b,off+k*4,none⟩=some (.int .i64 x.o)/\W.cell? ⟨b,off+k*4+1,none⟩=some (.int .i64 x.k)/\W.cell? ⟨b,off+k*4+2,none⟩=some (.int .i64 x.c)/\W.cell? ⟨b,off+k*4+3,none⟩=some (.bool x.f)/\W.cell? ⟨w.heap.size,0,none⟩=some (.int .i64 la)/\W.cell? ⟨w.heap.size,1,none⟩=some (.int .i64 lb)/\W.cell? ⟨w.heap.size,2,none⟩=some (.int .i64 lc)/\W.cell? ⟨w.heap.size,3,none⟩=some (.bool lr)) (first | go_keep | (refine ⟨?_,?_,?_,?_,?_,?_,?_,?_⟩ <;> (rw [hbc.cell (by assumption)];assumption))) (first | (go_at_call 78;refine (HAH.out _).mono ?_;rintro e w1 ⟨rfl,hbc⟩))
   have B1:Below w.heap.size w w1:=hb.drew.trans (hbc.mono hb.size);have hx1:w1.heap[w.heap.size]? = some (.cells #[.int .i64 la,.int .i64 lb,.int .i64 lc,.bool lr] 103):=by rw [hbc.block _ hxl];exact HX.out
   have hown1:=Zad OW.out.drew hbc (YA _);have c0:=D0.out;have c1:=D1.out;have c2:=D2.out;have c3:=D3.out;replace c0:=(B1.cell hbb).trans c0;replace c1:=(B1.cell hbb).trans c1;replace c2:=(B1.cell hbb).trans c2;replace c3:=(B1.cell hbb).trans c3;have hxl1:=Zab hx1;have HX1:=hide hx1;have OW1:=hide hown1;clear hx1 hown1 hbc;cases q
   ·have hs:=Zhv (p:=fun x=>Zbh x ⟨la,lb,lc,lr⟩) HL.out HQ.out.symm;have HS:=hide hs;clear hs;go_wp2;go_roundw
    case rel=>exact ⟨k+1,by omega,by go_num,by rw [HS.out];exact OW1.out,B1,HX1.out⟩
    case measure=>simp [intOf];omega
   ·have hs:=Zfu (p:=fun x=>Zbh x ⟨la,lb,lc,lr⟩) HL.out HQ.out.symm;have HS:=hide hs;clear hs
    go_wp2_with (first
     | (at_builtin;refine Zaz ZhK (by omega) Zjx (by omega) _ rfl _ _ 79 rfl (w.heap.size+1) 103 Tryz.underlying79 (thV th0) rfl Tryz.infoTh u5 _ x rfl (OW1.out.alloc _) ⟨w1.heap.size,0,none⟩ 1 rfl (Zak (cs:=thE x)) (by omega) (by simp;omega) ?_))
    intro v' w2 l' hl' hown' hgrow;have B2:Below w.heap.size w w2:=(B1.alloc B1.size _).grown hgrow (by simp;omega) (fun k hk=>by have:=(OW1.out.lt k hk).1;omega);have hx2:w2.heap[w.heap.size]? = some (.cells #[.int .i64 la,.int .i64 lb,.int .i64 lc,.bool lr] 103):=by rw [Za3 (OW1.out.alloc _) hgrow (by omega) (by simp;omega),YAI _ _ _ hxl1];exact HX1.out
    have HX2:=hide hx2;have OW2:=hide hown';clear hx2 hown' hgrow;go_wp2;go_roundw
    case rel=>exact ⟨k+1,by omega,by go_num,by rw [HS.out, <-hl'.out];exact OW2.out,B2,HX2.out⟩
    case measure=>simp [intOf];omega
  ·have hk':k=ls.length:=by omega
   rw [hk',YAX] at hown;have g0:=Zaa hx 0;have g1:=Zaa hx 1;have g2:=Zaa hx 2;have g3:=Zaa hx 3;simp at g0 g1 g2 g3;have hzr:=hb.size;have hfl2:(ls.filter (fun x=>Zbh x ⟨la,lb,lc,lr⟩)).length<=ls.length:=List.length_filter_le _ _;have OW:=hide hown;have HX:=hide hx;clear hown hx hk';obtain⟨wo,rfl⟩:∃ wo:World,wo=wr:=⟨_,rfl⟩
   go_wp2_with (first
    | (at_builtin;refine Zaz ZhK (by omega) Zjx (by omega) _ rfl _ _ 79 rfl (w.heap.size+1) 103 Tryz.underlying79 (thV th0) rfl Tryz.infoTh u5 _ ⟨la,lb,lc,lr⟩ rfl (OW.out.alloc _) ⟨wo.heap.size,0,none⟩ 1 rfl (Zak (cs:=thE ⟨la,lb,lc,lr⟩)) (by omega) (by simp;omega) ?_))
   intro v' w2 l' hl' hown' hgrow;have B2:Below w.heap.size w w2:=(hb.alloc hb.size _).grown hgrow (by simp;omega) (fun k hk=>by have:=(OW.out.lt k hk).1;omega);have hx2:w2.heap[w.heap.size]? = some (.cells #[.int .i64 la,.int .i64 lb,.int .i64 lc,.bool lr] 103):=by rw [Za3 (OW.out.alloc _) hgrow (by omega) (by simp;omega),YAI _ _ _ hxl];exact HX.out
   have hll:l'.length<=ls.length+1:=by rw [hl'.out];simp;omega
   have HX2:=hide hx2;have OW2:=hide hown';clear hx2 hown' hgrow hlt;go_wp2
   go_loopw [5,7] (fun u i wr=>∃ k:Nat,k<=ls.length/\i=.int .i64 k/\wr.ownsRow (w.heap.size+1) 103 4 u (l'++(ls.take k).filter (fun x=>Zbh ⟨la,lb,lc,lr⟩ x)).length (flat thE (l'++(ls.take k).filter (fun x=>Zbh ⟨la,lb,lc,lr⟩ x)))/\Below w.heap.size w wr/\wr.heap[w.heap.size]? = some (.cells #[.int .i64 la,.int .i64 lb,.int .i64 lc,.bool lr] 103)) (fun _ i _=>ls.length-(intOf i).toNat)
   case atStart=>exact ⟨0,by omega,rfl,by simpa using OW2.out,B2,HX2.out⟩
   case round=>
    clear OW2 HX2 B2 OW HX hb g0 g1 g2 g3 hzr hxl;obtain⟨k,hk,rfl,hown,hb,hx⟩:=hrel;have hfl:=Zft (fun x=>Zbh ⟨la,lb,lc,lr⟩ x) ls k;have hfl3:(l'++(ls.take k).filter (fun x=>Zbh ⟨la,lb,lc,lr⟩ x)).length<=2*ls.length+1:=by rw [YAM];omega
    have hxl:=Zab hx;by_cases hlt:k<ls.length
    ·obtain ⟨x,hl⟩:∃ l,ls[k]? = some l:=⟨ls[k],YAA hlt⟩;obtain⟨b,off,cap',hve,hbb,c0,c1,c2,c3⟩:=HV.out.cells k x hl;cases hve;have d0:=c0;have d1:=c1;have d2:=c2;have d3:=c3;replace c0:=(hb.cell hbb).trans c0;replace c1:=(hb.cell hbb).trans c1;replace c2:=(hb.cell hbb).trans c2;replace c3:=(hb.cell hbb).trans c3;have g0:=Zaa hx 0;have g1:=Zaa hx 1;have g2:=Zaa hx 2;have g3:=Zaa hx 3;simp at g0 g1 g2 g3;have hzr:=hb.size;have hbr:b<wr.heap.size:=by omega
     have hki:(0:Int)<=(k:Int):=by omega
     have hkj:(k:Int)<(ls.length:Int):=by omega
     obtain⟨q,hq⟩:∃ q,q=Zbh ⟨la,lb,lc,lr⟩ x:=⟨_,rfl⟩;have hah:=Ze6 ⟨la,lb,lc,lr⟩ x;rw [<-hq] at hah;unfold thV at hah;have HAH:=hide hah;have OW:=hide hown;have HX:=hide hx;have HL:=hide hl;have HQ:=hide hq;have D0:=hide d0;have D1:=hide d1;have D2:=hide d2;have D3:=hide d3;clear hah hown hx hl hq d0 d1 d2 d3;go_wp2
     go_region_held3 (fun W=>W.cell? ⟨b,off+k*4,none⟩=some (.int .i64 x.o)/\W.cell? ⟨b,off+k*4+1,none⟩=some (.int .i64 x.k)/\W.cell? ⟨b,off+k*4+2,none⟩=some (.int .i64 x.c)/\W.cell? ⟨b,off+k*4+3,none⟩=some (.bool x.f)/\W.cell? ⟨w.heap.size,0,none⟩=some (.int .i64 la)/\W.cell? ⟨w.heap.size,1,none⟩=some (.int .i64 lb)/\W.cell? ⟨w.heap.size,2,none⟩=some (.int .i64 lc)/\W.cell? ⟨w.heap.size,3,none⟩=some (.bool lr)) (first | go_keep | (refine ⟨?_,?_,?_,?_,?_,?_,?_,?_⟩ <;> (rw [hbc.cell (by assumption)];assumption))) (first | (go_at_call 78;refine (HAH.out _).mono ?_;rintro e w1 ⟨rfl,hbc⟩))
     have B1:Below w.heap.size w w1:=hb.drew.trans (hbc.mono hb.size);have hx1:w1.heap[w.heap.size]? = some (.cells #[.int .i64 la,.int .i64 lb,.int .i64 lc,.bool lr] 103):=by rw [hbc.block _ hxl];exact HX.out
     have hown1:=Zad OW.out.drew hbc (YA _);have c0:=D0.out;have c1:=D1.out;have c2:=D2.out;have c3:=D3.out;replace c0:=(B1.cell hbb).trans c0;replace c1:=(B1.cell hbb).trans c1;replace c2:=(B1.cell hbb).trans c2;replace c3:=(B1.cell hbb).trans c3;have hxl1:=Zab hx1;have HX1:=hide hx1;have OW1:=hide hown1;clear hx1 hown1 hbc;cases q
     ·have hs:=Zhv (p:=fun x=>Zbh ⟨la,lb,lc,lr⟩ x) HL.out HQ.out.symm;have HS:=hide hs;clear hs;go_wp2;go_roundw
      case rel=>exact ⟨k+1,by omega,by go_num,by rw [HS.out];exact OW1.out,B1,HX1.out⟩
      case measure=>simp [intOf];omega
     ·have hs:=Zfu (p:=fun x=>Zbh ⟨la,lb,lc,lr⟩ x) HL.out HQ.out.symm;have HS:=hide hs;clear hs
      go_wp2_with (first
       | (at_builtin;refine Zaz ZhK (by omega) Zjx (by omega) _ rfl _ _ 79 rfl (w.heap.size+1) 103 Tryz.underlying79 (thV th0) rfl Tryz.infoTh u5 _ x rfl (OW1.out.alloc _) ⟨w1.heap.size,0,none⟩ 1 rfl (Zak (cs:=thE x)) (by omega) (by simp;omega) ?_))
      intro v' w2 l2 hl2 hown' hgrow;have B2:Below w.heap.size w w2:=(B1.alloc B1.size _).grown hgrow (by simp;omega) (fun k hk=>by have:=(OW1.out.lt k hk).1;omega);have hx2:w2.heap[w.heap.size]? = some (.cells #[.int .i64 la,.int .i64 lb,.int .i64 lc,.bool lr] 103):=by rw [Za3 (OW1.out.alloc _) hgrow (by omega) (by simp;omega),YAI _ _ _ hxl1];exact HX1.out
      have HX2:=hide hx2;have OW2:=hide hown';clear hx2 hown' hgrow;go_wp2;go_roundw
      case rel=>exact ⟨k+1,by omega,by go_num,by rw [HS.out];first | (rw [<-hl2.out];exact OW2.out) | (rw [<-List.append_assoc, <-hl2.out];exact OW2.out),B2,HX2.out⟩
      case measure=>simp [intOf];omega
    ·have hk':k=ls.length:=by omega
     rw [hk',YAX] at hown;have OW:=hide hown;clear hown hk';go_wp2;go_ret;exact⟨_,rfl,by unfold putT;rw [<-hl'.out];exact OW.out,hb⟩
theorem Ze3 (v1 v2:Value)(xs ys:List Int)(w:World)(h1:ZhT w v1 xs w.heap.size)(h2:ZhT w v2 ys w.heap.size)(hn:xs.length<=1048576):
  Calls Tryz.prog 25 #[v1,v2] w fun e w'=>e=.returned (.bool (decide (xs=ys)))/\Below w.heap.size w w':=by
 obtain⟨a1,c1,rfl,k1⟩:=h1;obtain⟨a2,c2,rfl,k2⟩:=h2;by_cases hl:xs.length=ys.length
 ·have K1:=hide k1;have K2:=hide k2;clear k1 k2
  go_enter Tryz.func25,Tryz.ntmps25
  go_wp2
  go_loopw [5] (fun i wr=>∃ k:Nat,k<=xs.length/\i=.int .i64 k/\(∀ j,j<k->xs.getD j 0=ys.getD j 0)/\Below w.heap.size w wr) (fun i _=>xs.length-(intOf i).toNat)
  case atStart=>exact ⟨0,by omega,rfl,by omega,YAB _ _⟩
  case round=>
   obtain⟨k,hk,rfl,hall,hnx⟩:=hrel;have HALL:=hide hall;clear hall;by_cases hlt:k<xs.length
   ·obtain ⟨b1,o1,ha1,hb1,d1⟩:∃ b1 o1,a1=some ⟨b1,o1,none⟩/\b1<w.heap.size/\wr.cell? ⟨b1,o1+k,none⟩=some (.int .i64 (xs.getD k 0)):=by
     rcases K1.out with h0 | ⟨b,off,ha,hb,hx⟩
     ·omega
     ·exact ⟨b,off,ha,hb,by rw [hnx.cell (p:=⟨b,off+k,none⟩) hb,hx k (by omega)];rfl⟩
    obtain⟨b2,o2,ha2,hb2,d2⟩:∃ b2 o2,a2=some ⟨b2,o2,none⟩/\b2<w.heap.size/\wr.cell? ⟨b2,o2+k,none⟩=some (.int .i64 (ys.getD k 0)):=by
     rcases K2.out with h0 | ⟨b,off,ha,hb,hx⟩
     ·omega
     ·exact ⟨b,off,ha,hb,by rw [hnx.cell (p:=⟨b,off+k,none⟩) hb,hx k (by omega)];rfl⟩
    subst ha1 ha2;have hki:(0:Int)<=(k:Int):=by omega
    have hkj:(k:Int)<(xs.length:Int):=by omega
    have hkl:(k:Int)<(ys.length:Int):=by omega
    obtain⟨x,hx⟩:∃ x,x=xs.getD k 0:=⟨_,rfl⟩;obtain⟨y,hy⟩:∃ y,y=ys.getD k 0:=⟨_,rfl⟩;rw [<-hx] at d1;rw [<-hy] at d2;have HX:=hide hx;have HY:=hide hy;clear hx hy;by_cases hxy:x=y
    ·subst hxy;go_wp2
     go_quiet (fail)
     go_wp2;go_roundw
     case rel=>exact ⟨k+1,by omega,by go_num,(fun j hj=>by
      by_cases e:j=k
      ·subst e;rw [<-HX.out, <-HY.out]
      ·exact HALL.out j (by omega)),ZbP hnx _⟩
     case measure=>simp [intOf];omega
    ·have hd:(x != y)=true:=by simpa using hxy
     go_wp2
     go_quiet (fail)
     go_wp2;go_ret;exact⟨Zdg (ZgQ (k:=k) (by rw [<-HX.out, <-HY.out];exact hxy)),ZbP hnx _⟩
   ·have hkn:k=xs.length:=by omega
    have KN:=hide hkn;clear hkn;go_wp2;go_ret;exact⟨Zfg (ZfZ hl (by rw [<-KN.out];exact HALL.out)),hnx⟩
 ·clear k1 k2;have hd:((xs.length:Int) != (ys.length:Int))=true:=by simp;omega
  go_enter Tryz.func25,Tryz.ntmps25
  go_wp2;go_ret;exact⟨Zdg (fun h=>hl (by rw [h])),YAB _ _⟩
theorem Zjr (v1 v2:Value)(xs ys:List Int)(w:World)(h1:ZhT w v1 xs w.heap.size)(h2:ZhT w v2 ys w.heap.size)(hn:xs.length<=1048576):
  Calls Tryz.prog 47 #[v1,v2] w fun e w'=>e=.returned (.bool (decide (xs=ys)))/\Below w.heap.size w w':=by
 obtain⟨a1,c1,rfl,k1⟩:=h1;obtain⟨a2,c2,rfl,k2⟩:=h2;by_cases hl:xs.length=ys.length
 ·have K1:=hide k1;have K2:=hide k2;clear k1 k2
  go_enter Tryz.func47,Tryz.ntmps47
  go_wp2
  go_loopw [13] (fun i wr=>∃ k:Nat,k<=xs.length/\i=.int .i64 k/\(∀ j,j<k->xs.getD j 0=ys.getD j 0)/\Below w.heap.size w wr) (fun i _=>xs.length-(intOf i).toNat)
  case atStart=>exact ⟨0,by omega,rfl,by omega,YAB _ _⟩
  case round=>
   obtain⟨k,hk,rfl,hall,hnx⟩:=hrel;have HALL:=hide hall;clear hall;by_cases hlt:k<xs.length
   ·obtain ⟨b1,o1,ha1,hb1,d1⟩:∃ b1 o1,a1=some ⟨b1,o1,none⟩/\b1<w.heap.size/\wr.cell? ⟨b1,o1+k,none⟩=some (.int .i64 (xs.getD k 0)):=by
     rcases K1.out with h0 | ⟨b,off,ha,hb,hx⟩
     ·omega
     ·exact ⟨b,off,ha,hb,by rw [hnx.cell (p:=⟨b,off+k,none⟩) hb,hx k (by omega)];rfl⟩
    obtain⟨b2,o2,ha2,hb2,d2⟩:∃ b2 o2,a2=some ⟨b2,o2,none⟩/\b2<w.heap.size/\wr.cell? ⟨b2,o2+k,none⟩=some (.int .i64 (ys.getD k 0)):=by
     rcases K2.out with h0 | ⟨b,off,ha,hb,hx⟩
     ·omega
     ·exact ⟨b,off,ha,hb,by rw [hnx.cell (p:=⟨b,off+k,none⟩) hb,hx k (by omega)];rfl⟩
    subst ha1 ha2;have hki:(0:Int)<=(k:Int):=by omega
    have hkj:(k:Int)<(xs.length:Int):=by omega
    have hkl:(k:Int)<(ys.length:Int):=by omega
    obtain⟨x,hx⟩:∃ x,x=xs.getD k 0:=⟨_,rfl⟩;obtain⟨y,hy⟩:∃ y,y=ys.getD k 0:=⟨_,rfl⟩;rw [<-hx] at d1;rw [<-hy] at d2;have HX:=hide hx;have HY:=hide hy;clear hx hy;by_cases hxy:x=y
    ·subst hxy;go_wp2
     go_quiet (fail)
     go_wp2;go_roundw
     case rel=>exact ⟨k+1,by omega,by go_num,(fun j hj=>by
      by_cases e:j=k
      ·subst e;rw [<-HX.out, <-HY.out]
      ·exact HALL.out j (by omega)),ZbP hnx _⟩
     case measure=>simp [intOf];omega
    ·have hd:(x != y)=true:=by simpa using hxy
     go_wp2
     go_quiet (fail)
     go_wp2;go_ret;exact⟨Zdg (ZgQ (k:=k) (by rw [<-HX.out, <-HY.out];exact hxy)),ZbP hnx _⟩
   ·have hkn:k=xs.length:=by omega
    have KN:=hide hkn;clear hkn;go_wp2;go_ret;exact⟨Zfg (ZfZ hl (by rw [<-KN.out];exact HALL.out)),hnx⟩
 ·clear k1 k2;have hd:((xs.length:Int) != (ys.length:Int))=true:=by simp;omega
  go_enter Tryz.func47,Tryz.ntmps47
  go_wp2;go_ret;exact⟨Zdg (fun h=>hl (by rw [h])),YAB _ _⟩
abbrev LS:=LnD × Option Addr × Nat × Nat
def lsP (p:LS):JP:=(p.1,.slice p.2.1 p.2.2.1 p.2.2.2)
def OkLS (w:World)(g:Nat)(q:LS):Prop:=(∀ W,w.grownBy W (some g)->Zal W (lsP q).2 q.1.hops W.heap.size)/\q.1.hops.length<=1048576
abbrev LW (w:World) (g:Nat) := {q:LS // OkLS w g q}
instance (w:World) (g:Nat):Inhabited (LW w g):=⟨⟨(ZdW,none,0,0),⟨fun W _=>⟨none,0,rfl,.inl rfl⟩,Nat.zero_le _⟩⟩⟩
def Zc5 {w:World}{g:Nat}(q:LW w g):List Value:=encJ (lsP q.1)
theorem Zly {w:World}{g:Nat}(q:LW w g):∀ u∈Zc5 q,u.oneCell'=true:=by
 intro u hu;simp [Zc5,encJ,lsP] at hu;rcases hu with rfl | rfl | rfl <;> rfl
def cfLW {w:World}{g:Nat}(p q:LW w g):Int:=ZhD p.1.1 q.1.1
theorem swoLW (w:World)(g:Nat):Go.Sort.SWO (Go.Proofs.ltOf (cfLW (w:=w) (g:=g))) where
 irrefl x:=by unfold Go.Proofs.ltOf cfLW;rw [decide_eq_false_iff_not,ZgW];omega
 trans x y z h1 h2:=by
  unfold Go.Proofs.ltOf cfLW at *;rw [YAk,ZeC] at *;exact ZfH _ _ _ h1 h2
 ntrans x y z h1 h2:=by
  unfold Go.Proofs.ltOf cfLW at *;rw [decide_eq_false_iff_not,ZeC] at *;exact Zfc _ _ _ h1 h2
theorem Zls (w:World)(g off size:Nat):CmpLays Tryz.prog 23 #[] (Zc5 (w:=w) (g:=g)) 3 cfLW g off size w:=
 fun m os dk _ x y=>by
  have hg:w.grownBy (Go.Proofs.sortWorldK Zc5 3 w g off m dk os) (some g):=by
   refine⟨rfl,rfl,rfl,by unfold Go.Proofs.sortWorldK Go.Sort.grow Go.Sort.putRowK;simp [Go.Sort.putRow,Go.Sort.mapBlock,Go.Sort.ahead],fun j hj hne=>?_⟩;have hne':g≠j:=fun e=>hne (by rw [e]);unfold Go.Proofs.sortWorldK Go.Sort.grow Go.Sort.putRowK;rw [Array.getElem?_append_left (by simpa [Go.Sort.putRow,Go.Sort.mapBlock,Go.Sort.ahead] using hj)];simp [Go.Sort.putRow,Go.Sort.mapBlock,Go.Sort.ahead,Array.getElem?_modify,hne']
  exact (Zir x.1.1 y.1.1 (lsP x.1).2 (lsP y.1).2 _ (x.2.1 _ hg) (y.2.1 _ hg) x.2.2).mono fun _ _ ⟨h1,h2,h3⟩=>⟨h1,ZjV h2 h3⟩
theorem Zkz {l:List Int}{B g:Nat}(h:Zal W v l B)(hB:B<=g)(hg:W.grownBy W' (some g))(hs:B<=W.heap.size):Zal W' v l W'.heap.size:=by
 obtain⟨a,cap,hv,h2⟩:=h;refine⟨a,cap,hv,?_⟩;rcases h2 with h0 | ⟨b,off,ha,hb1,hx⟩
 ·exact .inl h0
 ·exact .inr ⟨b,off,ha,by have:=hg.size;omega,fun j hj=>hg.cell (hx j hj) (by simp;omega)⟩
theorem as_lw {w:World}{g B:Nat}(hB:B<=g)(hs:B<=w.heap.size):∀ {os:List JP},(∀ q∈os,Zal w q.2 q.1.hops B/\q.1.hops.length<=1048576)->∃ ss:List (LW w g),ss.map (fun q=>lsP q.1)=os
 | [],_=>⟨[],rfl⟩
 | q::os,h=>by
  obtain⟨ss,hss⟩:=as_lw hB hs (os:=os) (fun x hx=>h x (by simp [hx]));obtain⟨h1,h2⟩:=h q (by simp);obtain⟨a,c,e⟩:=h1.shape;refine⟨⟨(q.1,a,q.1.hops.length,c),⟨fun W hg=>?_,h2⟩⟩::ss,?_⟩
  ·show Zal W (.slice a q.1.hops.length c) q.1.hops W.heap.size;rw [<-e];exact Zkz h1 hB hg hs
  ·rw [List.map_cons,hss];congr 1;exact Prod.ext rfl e.symm
theorem Tryz.aggLine :∀ w,(isAgg 39).run Tryz.prog w=.ok true w:=fun w=>by kernel_rfl
theorem Tryz.sizeLine :∀ w,(Go.sizeOf 39).run Tryz.prog w=.ok 3 w:=fun w=>by kernel_rfl
theorem ZkW (v:Value)(os:List JP)(base:Nat)(w:World)(h:w.ownsRow base 39 3 v os.length (flat encJ os))(hok:∀ q∈os,Zal w q.2 q.1.hops base/\q.1.hops.length<=1048576)(hbw:base<=w.heap.size)(hlen:os.length<=1048576):
  Calls Tryz.prog 53 #[v,.func (.func 23) #[] #[]] w fun e w'=>e=.returned (.tuple #[])/\∃ qs:List JP,qs.Perm os/\ZcI (Zag qs)/\w'.ownsRow base 39 3 v qs.length (flat encJ qs)/\w.grownBy w' v.ownBlock:=by
 rcases h.2 with ⟨e0,hn0⟩ | ⟨g,cap,cur,e0,hb,hg,hn,hm,hs,ht⟩
 ·subst e0;have hos:os=[]:=List.length_eq_zero_iff.1 hn0;subst hos;have hc:=Go.Proofs.AnyF.slices_SortFunc_none Tryz.sortL none 0 (.func (.func 23) #[] #[]) w;change Calls Tryz.prog 53 _ _ _ at hc;refine hc.mono fun e w' ⟨h1,h2⟩=>⟨h1,[],List.Perm.refl _,by simp [ZcI,Zag],?_,?_⟩
  ·exact YAj _ _ _ _
  ·rw [h2];exact⟨rfl,rfl,rfl,YA _,fun _ _ _=>rfl⟩
 ·subst e0;obtain⟨ss,hss⟩:=as_lw (g:=g) hb hbw hok;have hsl2:ss.length=os.length:=by rw [<-hss,YAb]
  have hflat:flat encJ os=flat Zc5 ss:=by
   rw [<-hss];unfold flat Zc5;rw [List.flatMap_map]
  have hcell:∀ i c,i<ss.length->c<3->(flat Zc5 ss)[i*3+c]? = (Zc5 ss[i]!)[c]? := fun i c hi hc=>by
   exact Zbi (sz:=3) (fun _=>rfl) ss i c ss[i]! (by rw [getElem!_pos _ i hi];exact YAA hi) hc
  have hgl:=Zab hg;have hH:Go.Sort.HoldsK Zc5 3 w g 0 ss.toArray:=by
   intro j hj;rw [Go.Sort.size_flatK] at hj;simp only [List.size_toArray] at hj;refine⟨?_,by simp [World.frozen?,hg]⟩;rw [Go.Sort.get_flatK _ _ _ j (by simpa using hj)];have hd:j / 3<ss.length:=by omega
   have e1:(flat encJ os)[j]? = (Zc5 ss[j / 3]!)[j%3]? := by
    rw [hflat, <-hcell (j / 3) (j%3) hd (by omega)];congr 1;omega
   have e2:cur[j]? = (flat encJ os)[j]? := by
    rw [<-ht,List.getElem?_take,if_pos (by omega),Array.getElem?_toList]
   simp only [World.cell?,hg,Nat.zero_add];simp only [Option.isSome_none,Bool.false_eq_true,if_false];rw [e2,e1];have e3:(ss.toArray[j / 3]! : LW w g)=ss[j / 3]! := by simp
   rw [e3,YAA (show j%3<(Zc5 ss[j / 3]!).length by show j%3<3;omega),getElem!_pos _ (j%3) (show j%3<(Zc5 ss[j / 3]!).length by show j%3<3;omega)];rfl
  have hc:=Go.Proofs.AnyQ.slices_SortFunc Tryz.sortL 3 Tryz.aggLine Tryz.sizeLine Zc5 (fun _=>rfl) (fun x u hu=>Zly _ u hu) cfLW (swoLW w g) 23 #[] g 0 cap ss.toArray w (enters_of Tryz.func23 (by kernel_rfl) rfl) (Zls w g 0 ss.toArray.size) hH hgl (by simp;omega);change Calls Tryz.prog 53 _ _ _ at hc;rw [show ss.toArray.size=os.length by simp [hsl2]] at hc;refine hc.mono fun e w' ⟨h1,d',n,os',hp,hso,hw⟩=>⟨h1,d'.toList.map (fun q=>lsP q.1),?_,?_,?_,?_⟩
  ·have hpp:=hp.2.2;have hds:d'.size=os.length:=by rw [hp.1];simp [hsl2]
   rw [Array.extract_eq_self_of_le (by omega),Array.extract_eq_self_of_le (by simp [hsl2])] at hpp;have:=hpp.map (fun q:LW w g=>lsP q.1);rw [hss] at this;exact this
  ·have hds:d'.size=os.length:=by rw [hp.1];simp [hsl2]
   unfold ZcI Zag;rw [YAa,YAY,YAf];intro i j hi hj hij;simp only [Array.length_toList] at hi hj;have h3:=hso i j (by omega) hij (by omega);rw [getElem!_pos d' i hi,getElem!_pos d' j hj] at h3;unfold Go.Proofs.ltOf cfLW at h3;have h4:¬ZhD d'[j].1.1 d'[i].1.1<0:=by simpa using h3
   exact h4
  ·have hds:d'.size=os.length:=by rw [hp.1];simp [hsl2]
   obtain⟨cur',hg',hs'⟩:=ZdE (enc:=Zc5) (k:=3) (m:=n) (dk:=d') (os:=os') hg;have hH':=Go.Proofs.holdsK_sortWorldK_c Zc5 3 w g 0 ss.toArray d' n os' hH hgl (by rw [hds];simp [hsl2]);rw [hw];have hlm:(d'.toList.map (fun q=>lsP q.1)).length=os.length:=by simp [hds]
   rw [hlm];refine ZgX hg' hb hn hm (by rw [hs',hs]) (by rw [ZcK Zb6,hlm]) (fun j hj=>?_);have hd:j / 3<d'.size:=by omega
   have h6:=hH'.cell (i:=j / 3) (c:=j%3) hd (by omega);rw [show 0+j / 3*3+j%3=j by omega] at h6;rw [h6.1];have e1:(flat encJ (d'.toList.map (fun q=>lsP q.1)))[j / 3*3+j%3]? = (encJ (lsP d'[j / 3]!.1))[j%3]? := Zbi Zb6 _ _ _ _ (by rw [YAZ,Array.getElem?_toList,Array.getElem?_eq_getElem hd,getElem!_pos d' _ hd];rfl) (by omega);rw [show j / 3*3+j%3=j by omega] at e1;rw [e1];show some (Zc5 d'[j / 3]!)[j%3]! = (Zc5 d'[j / 3]!)[j%3]?;rw [YAA (show j%3<(Zc5 d'[j / 3]!).length by show j%3<3;omega),getElem!_pos _ (j%3) (show j%3<(Zc5 d'[j / 3]!).length by show j%3<3;omega)]
  ·rw [hw];exact ZdF
end Go.Proofs.YtdhnddfnckgbjaaGreat
