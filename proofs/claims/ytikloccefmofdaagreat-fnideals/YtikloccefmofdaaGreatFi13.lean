/-
  Parts.
-/
import Derived.Test.YtikloccefmofdaaGreatFi10
import Derived.Test.YtikloccefmofdaaGreatFi9
namespace Go.Proofs.YtikloccefmofdaaGreat
open Go.RowKit
set_option linter.unusedSimpArgs false
set_option linter.unusedVariables false
set_option maxRecDepth 100000
set_option maxHeartbeats 8000000
variable {ps:List RP}{B hi lo m1 m2:Nat}{v1 v2 v3 v4:Value}{W W':World}
theorem Zra (v:Value)(ps:List RP)(hi:Nat)(r:RP)(w:World)(hv:RecsIn w hi v ps)(hhi:hi<=w.heap.size)(hn:tot ps<=1048576):
  Calls Tryz.prog 146 #[v,.agg (recC r.1 r.2)] w fun e w'=>e=.returned (.int .i64 (atZ (fsts ps) r.1))/\Below w.heap.size w w':=by
 have hnl:=Zbj ps;obtain⟨a1,c1,rfl⟩:=Zac hv.row;have HV:=hide hv;clear hv;have BX:=(YAC w.heap.size w).alloc (YA _) (.cells (recC r.1 r.2) 37);have hx:=YAE w (.cells (recC r.1 r.2) 37);obtain⟨wx,hwx⟩:∃ wx,wx=w.alloc (.cells (recC r.1 r.2) 37):=⟨_,rfl⟩;rw [<-hwx] at BX hx;unfold recC at *
 go_enter Tryz.func146,Tryz.ntmps146
 go_wp2;rw [<-hwx];have HX:=hide hx;clear hwx hx
 go_loopw [5] (fun i wr=>∃ (k:Nat),k<=ps.length/\i=.int .i64 k/\(∀ j,j<k->∀ y,(fsts ps)[j]? = some y->Zap y r.1=false)/\Below wx.heap.size wx wr) (fun i _=>ps.length-(intOf i).toNat)
 case atStart=>exact ⟨0,by omega,rfl,by omega,YAC _ _⟩
 case round=>
  obtain⟨k,hk,rfl,hall,hnx⟩:=hrel;have HALL:=hide hall;clear hall;have hsz:=hnx.size;have hsx:=Zab HX.out;have BWR:Below w.heap.size w wr:=BX.trans (hnx.mono (by omega));by_cases hlt:k<ps.length
  ·obtain ⟨p,hp⟩:∃ p,ps[k]? = some p:=⟨ps[k],YAA hlt⟩;have hat:=HV.out.at;obtain⟨b,off,cap',hve,hbb,c0,c1,c2,c3,c4,c5,c6,c7,_⟩:=hat.cells k p hp;cases hve;replace c0:=(BWR.cell (YAB hbb hhi)).trans c0;replace c1:=(BWR.cell (YAB hbb hhi)).trans c1;replace c2:=(BWR.cell (YAB hbb hhi)).trans c2;replace c3:=(BWR.cell (YAB hbb hhi)).trans c3;replace c4:=(BWR.cell (YAB hbb hhi)).trans c4;replace c5:=(BWR.cell (YAB hbb hhi)).trans c5;replace c6:=(BWR.cell (YAB hbb hhi)).trans c6;replace c7:=(BWR.cell (YAB hbb hhi)).trans c7;have hxx:=(hnx.block _ hsx).trans HX.out;have d0:=Zaa hxx 0;have d1:=Zaa hxx 1;have d2:=Zaa hxx 2;have d3:=Zaa hxx 3;have d4:=Zaa hxx 4;have d5:=Zaa hxx 5;have d6:=Zaa hxx 6;have d7:=Zaa hxx 7;simp at d0 d1 d2 d3 d4 d5 d6 d7;have hb1:b<wr.heap.size:=by omega
   have hb2:w.heap.size<wr.heap.size:=by omega
   have hki:(0:Int)<=(k:Int):=by omega
   have hkj:(k:Int)<(ps.length:Int):=by omega
   have hq:=fun W=>ZkB p.2 r.2 p.1 r.1 W;unfold recC at hq;obtain⟨q,hqq⟩:∃ q,q=Zap p.1 r.1:=⟨_,rfl⟩;rw [<-hqq] at hq;have HK:=hide hq;have HQQ:=hide hqq;have HPP:=hide (Zbf hp);clear hq hqq hp hat hxx;cases q
   ·go_wp2
    go_region_held3 (fun W=>W.cell? ⟨b,off+k*8,none⟩=some (.int .i64 p.1.area)/\W.cell? ⟨b,off+k*8+1,none⟩=some (.int .i64 p.1.kind)/\W.cell? ⟨b,off+k*8+2,none⟩=some (.int .i64 p.1.owner)/\W.cell? ⟨b,off+k*8+3,none⟩=some (.int .i64 p.1.key)/\W.cell? ⟨b,off+k*8+4,none⟩=some (.int .i64 p.1.seq)/\W.cell? ⟨b,off+k*8+5,none⟩=some (p.2)/\W.cell? ⟨b,off+k*8+6,none⟩=some (.int .i64 p.1.cost)/\W.cell? ⟨b,off+k*8+7,none⟩=some (.bool p.1.far)/\W.cell? ⟨w.heap.size,0,none⟩=some (.int .i64 r.1.area)/\W.cell? ⟨w.heap.size,1,none⟩=some (.int .i64 r.1.kind)/\W.cell? ⟨w.heap.size,2,none⟩=some (.int .i64 r.1.owner)/\W.cell? ⟨w.heap.size,3,none⟩=some (.int .i64 r.1.key)/\W.cell? ⟨w.heap.size,4,none⟩=some (.int .i64 r.1.seq)/\W.cell? ⟨w.heap.size,5,none⟩=some (r.2)/\W.cell? ⟨w.heap.size,6,none⟩=some (.int .i64 r.1.cost)/\W.cell? ⟨w.heap.size,7,none⟩=some (.bool r.1.far)) (first | go_keep | (refine ⟨?_,?_,?_,?_,?_,?_,?_,?_,?_,?_,?_,?_,?_,?_,?_,?_⟩ <;> (rw [hbc.cell (by assumption)];assumption))) (first | (go_at_call 165;refine (HK.out _).mono ?_;rintro e w1 ⟨rfl,hbc⟩))
    go_wp2;go_roundw
    case rel=>exact ⟨k+1,by omega,by go_num,(fun j hj y hy=>by
     by_cases e:j=k
     ·subst e;rw [HPP.out] at hy;cases hy;exact HQQ.out.symm
     ·exact HALL.out j (by omega) y hy),hnx.trans ((YAC _ _).drew.trans (hbc.mono hsz))⟩
    case measure=>simp [intOf];omega
   ·go_wp2
    go_region_held3 (fun W=>W.cell? ⟨b,off+k*8,none⟩=some (.int .i64 p.1.area)/\W.cell? ⟨b,off+k*8+1,none⟩=some (.int .i64 p.1.kind)/\W.cell? ⟨b,off+k*8+2,none⟩=some (.int .i64 p.1.owner)/\W.cell? ⟨b,off+k*8+3,none⟩=some (.int .i64 p.1.key)/\W.cell? ⟨b,off+k*8+4,none⟩=some (.int .i64 p.1.seq)/\W.cell? ⟨b,off+k*8+5,none⟩=some (p.2)/\W.cell? ⟨b,off+k*8+6,none⟩=some (.int .i64 p.1.cost)/\W.cell? ⟨b,off+k*8+7,none⟩=some (.bool p.1.far)/\W.cell? ⟨w.heap.size,0,none⟩=some (.int .i64 r.1.area)/\W.cell? ⟨w.heap.size,1,none⟩=some (.int .i64 r.1.kind)/\W.cell? ⟨w.heap.size,2,none⟩=some (.int .i64 r.1.owner)/\W.cell? ⟨w.heap.size,3,none⟩=some (.int .i64 r.1.key)/\W.cell? ⟨w.heap.size,4,none⟩=some (.int .i64 r.1.seq)/\W.cell? ⟨w.heap.size,5,none⟩=some (r.2)/\W.cell? ⟨w.heap.size,6,none⟩=some (.int .i64 r.1.cost)/\W.cell? ⟨w.heap.size,7,none⟩=some (.bool r.1.far)) (first | go_keep | (refine ⟨?_,?_,?_,?_,?_,?_,?_,?_,?_,?_,?_,?_,?_,?_,?_,?_⟩ <;> (rw [hbc.cell (by assumption)];assumption))) (first | (go_at_call 165;refine (HK.out _).mono ?_;rintro e w1 ⟨rfl,hbc⟩))
    go_wp2;go_ret;exact⟨ZgO (by rw [Zn5 HPP.out HQQ.out.symm HALL.out]),BWR.trans ((YAC _ _).drew.trans (hbc.mono (show w.heap.size<=wr.heap.size by omega)))⟩
  ·have hkn:k=ps.length:=by omega
   have KN:=hide hkn;clear hkn;go_wp2;go_ret;exact⟨ZgO (by rw [ZpZ (by have h:=HALL.out;rw [KN.out] at h;simpa [fsts] using h)]),BWR⟩
theorem ZqE {l:List Int}{k:Nat}{z y:Int}(h:l[k]? = some y)(hn:z ∉ l.take k)(hz:z≠y):z ∉ l.take (k+1):=by
 obtain⟨hk,e⟩:=YAD.1 h;rw [YAI hk,e];intro hm;rcases YAF.1 hm with h1 | h1
 ·exact hn h1
 ·exact hz (by simpa using h1)
theorem ZoF (v:Value)(l:List Int)(z:Int)(w:World)(hn:l.length<=1048576)(hv:ZaI w v l w.heap.size):
  Calls Tryz.prog 150 #[v,.int .i64 z] w fun e w'=>∃ r:Int,e=.returned (.int .i64 r)/\(0<=r↔z∈l)/\w=w':=by
 obtain⟨a,cap,rfl⟩:=hv.shape;have HV:=hide hv;clear hv
 go_enter Tryz.func150,Tryz.ntmps150
 go_wp2
 go_loop [8] (fun i=>∃ k:Nat,k<=l.length/\i=.int .i64 k/\Hid (z ∉ l.take k)) (fun i=>l.length-(intOf i).toNat)
 case atStart=>exact ⟨0,by omega,rfl,hide (by simp)⟩
 case round=>
  obtain⟨k,hk,rfl,HNO⟩:=hrel;by_cases hlt:k<l.length
  ·obtain ⟨y,hy⟩:∃ y,l[k]? = some y:=⟨l[k],YAA hlt⟩;obtain⟨b,off,cap',hve,hbb,c0⟩:=HV.out.cell k y hy;cases hve;have hki:(0:Int)<=(k:Int):=by omega
   have hkj:(k:Int)<(l.length:Int):=by omega
   by_cases hzy:z=y
   ·have HM:=hide (show (0:Int)<=(k:Int)↔z∈l from ⟨fun _=>by rw [hzy];exact YAG hy,fun _=>by omega⟩);have hd:(z==y)=true:=by simpa using hzy
    clear hy hzy;go_wp2;go_ret;exact⟨_,rfl,HM.out,rfl⟩
   ·have HN:=hide (ZqE hy HNO.out hzy);have hd:(z==y)=false:=by simpa using hzy
    clear hy hzy;go_wp2
    go_round
    case rel=>exact ⟨k+1,by omega,by go_num,HN⟩
    case measure=>simp [intOf];omega
  ·have HM:=hide (show (0:Int) <= -1↔z∈l from ⟨fun h0=>by omega,fun hm=>by
    have h:=HNO.out;rw [YAL (by omega)] at h;exact absurd hm h⟩)
   go_wp2;go_ret;exact⟨_,rfl,HM.out,rfl⟩
theorem Zpr {a b:Prop} [Decidable a] [Decidable b](h:a↔b):Ending.returned (.bool (decide a))=.returned (.bool (decide b)):=by rw [decide_eq_decide.2 h]
theorem Zj1 (v:Value)(l:List Int)(z:Int)(w:World)(hn:l.length<=1048576)(hv:ZaI w v l w.heap.size):
  Calls Tryz.prog 123 #[v,.int .i64 z] w fun e w'=>e=.returned (.bool (decide (z∈l)))/\w=w':=by
 obtain⟨a,cap,rfl⟩:=hv.shape;have HI:=hide (ZoF _ l z w hn hv);clear hv
 go_enter Tryz.func123,Tryz.ntmps123
 go_wp2_with fail
 refine HI.out.mono ?_;rintro e w1 ⟨r,rfl,hr,rfl⟩;have HR:=hide hr;clear hr;go_wp2;go_ret;exact⟨Zpr HR.out,rfl⟩
def Zdc (l:List Int):Nat->List Int
 | 0=>[]
 | k+1=>Zdc l k++(if decide ((k:Int)∈l) then [(k:Int)] else [])
theorem Zhq {l:List Int}{x:Int}:∀ {k:Nat},x∈Zdc l k↔x∈l/\0<=x/\x<(k:Int)
 | 0=>by simp [Zdc] <;> omega
 | k+1=>by
  unfold Zdc;rw [YAF,Zhq];constructor
  ·rintro (⟨h1,h2,h3⟩ | h)
   ·exact ⟨h1,h2,by omega⟩
   ·split at h
    ·rename_i h0
     have:x=(k:Int):=by simpa using h
     subst this;exact⟨by simpa using h0,by omega,by omega⟩
    ·simp at h
  ·rintro ⟨h1,h2,h3⟩;by_cases e:x=(k:Int)
   ·subst e;right;rw [if_pos (by simpa using h1)];simp
   ·exact .inl ⟨h1,h2,by omega⟩
theorem Zeh (l:List Int):∀ k:Nat,(Zdc l k).length<=k
 | 0=>by simp [Zdc]
 | k+1=>by
  have:=Zeh l k;unfold Zdc;rw [YAN]
  split <;> simp <;> omega
theorem ZmG (v:Value)(l:List Int)(hi:Nat)(w:World)(hn:l.length<=1048576)(hv:ZaI w v l hi)(hhi:hi<=w.heap.size):
  Calls Tryz.prog 92 #[v] w fun e w'=>∃ x,e=.returned x/\IntsOwn w' w.heap.size w'.heap.size x (Zdc l 3)/\Below w.heap.size w w':=by
 obtain⟨a,cap,rfl⟩:=hv.shape;have HC:=hide (fun (z:Int) (W:World) (hb:Below w.heap.size w W)=>Zj1 (.slice a l.length cap) l z W hn (Zav.more (Zav.later hv hb hhi) (YAK hhi hb.size)));clear hv
 go_enter Tryz.func92,Tryz.ntmps92
 go_wp2
 go_loopw [5,3] (fun i o wr=>∃ (k:Nat) (x:Value),k<=3/\i=.int .i64 (k:Int)/\o=x/\wr.ownsRow w.heap.size 3 1 x (Zdc l k).length (flat intE (Zdc l k))/\Below w.heap.size w wr) (fun i _ _=>4-(intOf i).toNat)
 case atStart=>exact ⟨0,_,by omega,rfl,rfl,YAZ _ _ _ _,YAC _ _⟩
 case round=>
  obtain⟨k,x,hk,rfl,rfl,hown,hb⟩:=hrel;obtain⟨xa,xc,rfl⟩:=Zac hown;have hsz:=hb.size;have hrl:=Zeh l k;have OW:=hide hown;clear hown;by_cases hlt:k<3
  ·have hk3:(k:Int)<3:=by omega
   obtain⟨D,hD⟩:∃ D,D=decide ((k:Int)∈l):=⟨_,rfl⟩;have HST:=hide (show Zdc l (k+1)=Zdc l k++(if D then [(k:Int)] else []) by rw [hD];rfl);have HCC:=hide (HC.out (k:Int) wr hb);rw [<-hD] at HCC;clear hD;obtain⟨C,hC⟩:∃ C,C=Zdc l k:=⟨_,rfl⟩;rw [<-hC] at OW HST hrl |-;clear hC
   go_wp2_with fail
   refine HCC.out.mono ?_;rintro e w1 ⟨rfl,rfl⟩;cases D
   ·have HOW:=hide (show wr.ownsRow w.heap.size 3 1 (.slice xa C.length xc) (Zdc l (k+1)).length (flat intE (Zdc l (k+1))) by rw [HST.out];simpa using OW.out);go_wp2;go_roundw
    case rel=>exact ⟨k+1,_,by omega,by go_num,rfl,HOW.out,hb⟩
    case measure=>simp [intOf];omega
   ·go_wp2_with (first
     | (at_builtin;refine ZaL Zev (by omega) (by omega) _ rfl _ _ 40 rfl w.heap.size 3 Tryz.underlying40 (.int .i64 0) rfl Tryz.info3 _ C (k:Int) (Zdj _) rfl (OW.out.alloc _) ⟨wr.heap.size,0,none⟩ 1 rfl (Zan (cs:=intE (k:Int))) (by omega) (by simp;omega) ?_))
    intro v' w4 hown' hgrow;have B4:Below w.heap.size w w4:=(hb.alloc hsz _).grown hgrow (by simp;omega) (fun j hj=>(OW.out.lt j hj).1);have O4:=hide (show w4.ownsRow w.heap.size 3 1 v' (Zdc l (k+1)).length (flat intE (Zdc l (k+1))) by rw [HST.out];simpa using hown');obtain⟨va,vc,rfl⟩:=Zac hown';clear hown' hgrow;go_wp2;go_roundw
    case rel=>exact ⟨k+1,_,by omega,by go_num,rfl,O4.out,B4⟩
    case measure=>simp [intOf];omega
  ·have hk3:¬(k:Int)<3:=by omega
   have hkk:k=3:=by omega
   subst hkk;have HE:=hide (IntsOwn.of OW.out);obtain⟨C,hC⟩:∃ C,C=Zdc l 3:=⟨_,rfl⟩;rw [<-hC] at HE |-;have HCC:=hide hC;clear hC OW;go_wp2;go_ret;exact⟨_,rfl,by rw [<-HCC.out];exact HE.out,hb⟩
structure SelfD where
 id:Int
 boot:Int
 net:NetD
 heard:List Int
abbrev ZlI (x:SelfD) (v1 v2 v3 v4:Value):Value:=.agg #[.int .i64 x.id,.int .i64 x.boot,.int .i64 x.net.n,v1,v2,v3,v4]
structure SelfIn (W:World) (v1 v2 v3 v4:Value) (x:SelfD) (ps:List RP) (B:Nat):Prop where
 links:ZaK W v1 x.net.ls B
 things:ZaS W v2 x.net.ts B
 heard:ZaI W v3 x.heard B
 store:Zbu W v4 ps B
def Zrv (W:World)(v:Value)(x:SelfD)(ps:List RP)(B:Nat):Prop:=∃ v1 v2 v3 v4,v=ZlI x v1 v2 v3 v4/\ZaK W v1 x.net.ls B/\ZaS W v2 x.net.ts B/\ZaI W v3 x.heard B/\Zbu W v4 ps B
theorem Zrv.in {v:Value}{x:SelfD}(h:Zrv W v x ps B):∃ v1 v2 v3 v4,v=ZlI x v1 v2 v3 v4/\SelfIn W v1 v2 v3 v4 x ps B:=by
 obtain⟨v1,v2,v3,v4,h0,h1,h2,h3,h4⟩:=h;exact⟨v1,v2,v3,v4,h0,h1,h2,h3,h4⟩
theorem SelfIn.later {x:SelfD}{C:Nat}(h:SelfIn W v1 v2 v3 v4 x ps B)(hb:Below C W W')(hBC:B<=C):SelfIn W' v1 v2 v3 v4 x ps B:=
 ⟨Zav.later h.links hb hBC,Zav.later h.things hb hBC,Zav.later h.heard hb hBC,h.store.later hb hBC⟩
theorem SelfIn.more {x:SelfD}{C:Nat}(h:SelfIn W v1 v2 v3 v4 x ps B)(hBC:B<=C):SelfIn W v1 v2 v3 v4 x ps C:=
 ⟨Zav.more h.links hBC,Zav.more h.things hBC,Zav.more h.heard hBC,h.store.more hBC⟩
theorem SelfIn.then {x:SelfD}(h:SelfIn W v1 v2 v3 v4 x ps W.heap.size)(hb:Below W.heap.size W W'):SelfIn W' v1 v2 v3 v4 x ps W'.heap.size:=(h.later hb (YA _)).more hb.size
structure SelfOwn (W:World) (lo hi:Nat) (v1 v2 v3 v4:Value) (x:SelfD) (ps:List RP) (m1 m2:Nat):Prop where
 o1:lo<=m1
 o2:m1<=m2
 o3:m2<=hi
 links:W.ownsRow lo 78 4 v1 x.net.ls.length (flat lkE x.net.ls)
 ltop:∀ k,v1.ownBlock=some k->k<m1
 things:W.ownsRow lo 65 4 v2 x.net.ts.length (flat thE x.net.ts)
 ttop:∀ k,v2.ownBlock=some k->k<m1
 heard:IntsOwn W m1 m2 v3 x.heard
 store:RecsOwn W m2 hi v4 ps
theorem Zei {α:Type}{enc:α->List Value}{sz:Nat}{t:TypeId}{v:Value}{l:List α}(h:W.ownsRow lo t sz v l.length (flat enc l))(ht:∀ k,v.ownBlock=some k->k<hi):ZaU enc sz W v l hi:=by
 obtain⟨a,cap,hv,h2⟩:=Zam h;refine⟨a,cap,hv,?_⟩;rcases h2 with h0 | ⟨b,off,ha,hb1,hx⟩
 ·exact .inl h0
 ·exact .inr ⟨b,off,ha,ht b (by rw [hv,ha];rfl),hx⟩
theorem SelfOwn.in {x:SelfD}(h:SelfOwn W lo hi v1 v2 v3 v4 x ps m1 m2):SelfIn W v1 v2 v3 v4 x ps hi where
 links:=Zav.more (Zei h.links h.ltop) (YAK h.o2 h.o3)
 things:=Zav.more (Zei h.things h.ttop) (YAK h.o2 h.o3)
 heard:=Zav.more h.heard.at h.o3
 store:=h.store.at
theorem SelfOwn.keep {x:SelfD}(h:SelfOwn W lo hi v1 v2 v3 v4 x ps m1 m2)(hk:∀ k,lo<=k->k<hi->k<W.heap.size->W'.heap[k]? = W.heap[k]?):SelfOwn W' lo hi v1 v2 v3 v4 x ps m1 m2 where
 o1:=h.o1
 o2:=h.o2
 o3:=h.o3
 links:=Zal h.links (fun k e=>by have h1:=h.links.lt k e;have h2:=h.ltop k e;have:=h.o2;have:=h.o3;exact hk k h1.1 (by omega) h1.2)
 ltop:=h.ltop
 things:=Zal h.things (fun k e=>by have h1:=h.things.lt k e;have h2:=h.ttop k e;have:=h.o2;have:=h.o3;exact hk k h1.1 (by omega) h1.2)
 ttop:=h.ttop
 heard:=h.heard.keep (fun k a b c=>by have:=h.o1;have:=h.o3;exact hk k (by omega) (by omega) c)
 store:=h.store.keep (fun k a b c=>by have:=h.o1;have:=h.o2;exact hk k (by omega) b c)
theorem SelfOwn.below {x:SelfD}(h:SelfOwn W lo hi v1 v2 v3 v4 x ps m1 m2)(hb:Below B W W')(hB:hi<=B):SelfOwn W' lo hi v1 v2 v3 v4 x ps m1 m2:=h.keep (fun k _ h2 _=>hb.block k (by omega))
theorem SelfOwn.frame {l2 h2:Nat}{x:SelfD}(h:SelfOwn W lo hi v1 v2 v3 v4 x ps m1 m2)(hb:Frame l2 h2 W W')(hB:hi<=l2\/h2<=lo):SelfOwn W' lo hi v1 v2 v3 v4 x ps m1 m2:=h.keep (fun k a b c=>hb.block k c (by omega))
theorem SelfOwn.low {lo':Nat}{x:SelfD}(h:SelfOwn W lo hi v1 v2 v3 v4 x ps m1 m2)(hl:lo'<=lo):SelfOwn W lo' hi v1 v2 v3 v4 x ps m1 m2:=
 ⟨YAK hl h.o1,h.o2,h.o3,Zaf h.links hl,h.ltop,Zaf h.things hl,h.ttop,h.heard,h.store⟩
structure SelfSrc (W:World) (hi:Nat) (v1 v2 v3 v4:Value) (x:SelfD) (ps:List RP):Prop where
 links:W.ownsRow 0 78 4 v1 x.net.ls.length (flat lkE x.net.ls)
 ltop:∀ k,v1.ownBlock=some k->k<hi
 things:W.ownsRow 0 65 4 v2 x.net.ts.length (flat thE x.net.ts)
 ttop:∀ k,v2.ownBlock=some k->k<hi
 heard:W.ownsRow 0 3 1 v3 x.heard.length (flat intE x.heard)
 htop:∀ k,v3.ownBlock=some k->k<hi
 store:RecsIn W hi v4 ps
theorem SelfOwn.src {x:SelfD}(h:SelfOwn W lo hi v1 v2 v3 v4 x ps m1 m2):SelfSrc W hi v1 v2 v3 v4 x ps where
 links:=Zaf h.links (Nat.zero_le _)
 ltop:=fun k e=>by have:=h.ltop k e;have:=h.o2;have:=h.o3;omega
 things:=Zaf h.things (Nat.zero_le _)
 ttop:=fun k e=>by have:=h.ttop k e;have:=h.o2;have:=h.o3;omega
 heard:=Zaf h.heard.row (Nat.zero_le _)
 htop:=fun k e=>by have:=h.heard.top k e;have:=h.o3;omega
 store:=h.store.in
theorem SelfSrc.below {x:SelfD}(h:SelfSrc W hi v1 v2 v3 v4 x ps)(hb:Below B W W')(hB:hi<=B):SelfSrc W' hi v1 v2 v3 v4 x ps where
 links:=Zal h.links (fun k e=>hb.block k (by have:=h.ltop k e;omega))
 ltop:=h.ltop
 things:=Zal h.things (fun k e=>hb.block k (by have:=h.ttop k e;omega))
 ttop:=h.ttop
 heard:=Zal h.heard (fun k e=>hb.block k (by have:=h.htop k e;omega))
 htop:=h.htop
 store:=h.store.below hb hB
theorem SelfSrc.in {x:SelfD}(h:SelfSrc W hi v1 v2 v3 v4 x ps):SelfIn W v1 v2 v3 v4 x ps hi where
 links:=Zei h.links h.ltop
 things:=Zei h.things h.ttop
 heard:=Zei h.heard h.htop
 store:=h.store.at
end Go.Proofs.YtikloccefmofdaaGreat
