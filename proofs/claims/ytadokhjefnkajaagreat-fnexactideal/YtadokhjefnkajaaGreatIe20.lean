/-
  PlaceJ FindK RealI SelfK IAreaB
-/
import Derived.Test.YtadokhjefnkajaaGreatIe16
import Derived.Test.YtadokhjefnkajaaGreatIe13
import Derived.Test.YtadokhjefnkajaaGreatIe9
import Derived.Test.YtadokhjefnkajaaGreatIe11
import Derived.Test.YtadokhjefnkajaaGreatIe8
import Derived.Test.YtadokhjefnkajaaGreatIe15
namespace Go.Proofs.YtadokhjefnkajaaGreat
open Go.RowKit
set_option linter.unusedSimpArgs false
set_option linter.unusedVariables false
set_option maxRecDepth 100000
set_option maxHeartbeats 8000000
theorem Zo2 (v:Value)(ps:List RP)(hi:Nat)(r:RP)(w:World)(hv:RecsIn w hi v ps)(hhi:hi<=w.heap.size)(hn:tot ps<=1048576):
  Calls Tryz.prog 65 #[v,.agg (recC r.1 r.2)] w fun e w'=>e=.returned (.int .i64 (atZ (fsts ps) r.1))/\Below w.heap.size w w':=by
 have hnl:=Zbh ps;obtain⟨a1,c1,rfl⟩:=Zac hv.row;have HV:=hide hv;clear hv;have BX:=(Below.refl w.heap.size w).alloc (Nat.le_refl _) (.cells (recC r.1 r.2) 39);have hx:=heap_alloc_new w (.cells (recC r.1 r.2) 39);obtain⟨wx,hwx⟩:∃ wx,wx=w.alloc (.cells (recC r.1 r.2) 39):=⟨_,rfl⟩;rw [<-hwx] at BX hx;unfold recC at *
 go_enter Tryz.func65,Tryz.ntmps65
 go_wp2
 rw [<-hwx];have HX:=hide hx;clear hwx hx
 go_loopw [5] (fun i wr=>∃ (k:Nat),k<=ps.length/\i=.int .i64 k/\(∀ j,j<k->∀ y,(fsts ps)[j]? = some y->Zaw y r.1=false)/\Below wx.heap.size wx wr) (fun i _=>ps.length-(intOf i).toNat)
 case atStart=>exact ⟨0,by omega,rfl,by omega,Below.refl _ _⟩
 case round=>
  obtain⟨k,hk,rfl,hall,hnx⟩:=hrel;have HALL:=hide hall;clear hall;have hsz:=hnx.size;have hsx:=Zab HX.out;have BWR:Below w.heap.size w wr:=BX.trans (hnx.mono (by omega))
  by_cases hlt:k<ps.length
  ·obtain ⟨p,hp⟩:∃ p,ps[k]? = some p:=⟨ps[k],List.getElem?_eq_getElem hlt⟩
   have hat:=HV.out.at;obtain⟨b,off,cap',hve,hbb,c0,c1,c2,c3,c4,c5,c6,c7,_⟩:=hat.cells k p hp;cases hve
   rw [<-BWR.cell (p:=⟨b,off+k*8,none⟩) (Nat.lt_of_lt_of_le hbb hhi)] at c0;rw [<-BWR.cell (p:=⟨b,off+k*8+1,none⟩) (Nat.lt_of_lt_of_le hbb hhi)] at c1;rw [<-BWR.cell (p:=⟨b,off+k*8+2,none⟩) (Nat.lt_of_lt_of_le hbb hhi)] at c2;rw [<-BWR.cell (p:=⟨b,off+k*8+3,none⟩) (Nat.lt_of_lt_of_le hbb hhi)] at c3;rw [<-BWR.cell (p:=⟨b,off+k*8+4,none⟩) (Nat.lt_of_lt_of_le hbb hhi)] at c4;rw [<-BWR.cell (p:=⟨b,off+k*8+5,none⟩) (Nat.lt_of_lt_of_le hbb hhi)] at c5;rw [<-BWR.cell (p:=⟨b,off+k*8+6,none⟩) (Nat.lt_of_lt_of_le hbb hhi)] at c6;rw [<-BWR.cell (p:=⟨b,off+k*8+7,none⟩) (Nat.lt_of_lt_of_le hbb hhi)] at c7;have hxx:=(hnx.block _ hsx).trans HX.out;have d0:=Zaa hxx 0;have d1:=Zaa hxx 1;have d2:=Zaa hxx 2;have d3:=Zaa hxx 3;have d4:=Zaa hxx 4;have d5:=Zaa hxx 5;have d6:=Zaa hxx 6;have d7:=Zaa hxx 7;simp at d0 d1 d2 d3 d4 d5 d6 d7
   have hb1:b<wr.heap.size:=by omega
   have hb2:w.heap.size<wr.heap.size:=by omega
   have hki:(0:Int)<=(k:Int):=by omega
   have hkj:(k:Int)<(ps.length:Int):=by omega
   have hq:=fun W=>Zja p.2 r.2 p.1 r.1 W
   unfold recC at hq;obtain⟨q,hqq⟩:∃ q,q=Zaw p.1 r.1:=⟨_,rfl⟩;rw [<-hqq] at hq;have HK:=hide hq;have HQQ:=hide hqq;have HPP:=hide (Zbw hp);clear hq hqq hp hat hxx;cases q
   ·go_wp2
    go_region_held3 (fun W=>W.cell? ⟨b,off+k*8,none⟩=some (.int .i64 p.1.area)/\W.cell? ⟨b,off+k*8+1,none⟩=some (.int .i64 p.1.kind)/\W.cell? ⟨b,off+k*8+2,none⟩=some (.int .i64 p.1.owner)/\W.cell? ⟨b,off+k*8+3,none⟩=some (.int .i64 p.1.key)/\W.cell? ⟨b,off+k*8+4,none⟩=some (.int .i64 p.1.seq)/\W.cell? ⟨b,off+k*8+5,none⟩=some (p.2)/\W.cell? ⟨b,off+k*8+6,none⟩=some (.int .i64 p.1.cost)/\W.cell? ⟨b,off+k*8+7,none⟩=some (.bool p.1.far)/\W.cell? ⟨w.heap.size,0,none⟩=some (.int .i64 r.1.area)/\W.cell? ⟨w.heap.size,1,none⟩=some (.int .i64 r.1.kind)/\W.cell? ⟨w.heap.size,2,none⟩=some (.int .i64 r.1.owner)/\W.cell? ⟨w.heap.size,3,none⟩=some (.int .i64 r.1.key)/\W.cell? ⟨w.heap.size,4,none⟩=some (.int .i64 r.1.seq)/\W.cell? ⟨w.heap.size,5,none⟩=some (r.2)/\W.cell? ⟨w.heap.size,6,none⟩=some (.int .i64 r.1.cost)/\W.cell? ⟨w.heap.size,7,none⟩=some (.bool r.1.far)) (first | go_keep | (refine ⟨?_,?_,?_,?_,?_,?_,?_,?_,?_,?_,?_,?_,?_,?_,?_,?_⟩ <;> (rw [hbc.cell (by assumption)];assumption))) (first | (go_at_call 73;refine (HK.out _).mono ?_;rintro e w1 ⟨rfl,hbc⟩))
    go_wp2
    go_roundw
    case rel=>exact ⟨k+1,by omega,by go_num,(fun j hj y hy=>by
     by_cases e:j=k
     ·subst e;rw [HPP.out] at hy;cases hy;exact HQQ.out.symm
     ·exact HALL.out j (by omega) y hy),hnx.trans ((Below.refl _ _).drew.trans (hbc.mono hsz))⟩
    case measure=>simp [intOf];omega
   ·go_wp2
    go_region_held3 (fun W=>W.cell? ⟨b,off+k*8,none⟩=some (.int .i64 p.1.area)/\W.cell? ⟨b,off+k*8+1,none⟩=some (.int .i64 p.1.kind)/\W.cell? ⟨b,off+k*8+2,none⟩=some (.int .i64 p.1.owner)/\W.cell? ⟨b,off+k*8+3,none⟩=some (.int .i64 p.1.key)/\W.cell? ⟨b,off+k*8+4,none⟩=some (.int .i64 p.1.seq)/\W.cell? ⟨b,off+k*8+5,none⟩=some (p.2)/\W.cell? ⟨b,off+k*8+6,none⟩=some (.int .i64 p.1.cost)/\W.cell? ⟨b,off+k*8+7,none⟩=some (.bool p.1.far)/\W.cell? ⟨w.heap.size,0,none⟩=some (.int .i64 r.1.area)/\W.cell? ⟨w.heap.size,1,none⟩=some (.int .i64 r.1.kind)/\W.cell? ⟨w.heap.size,2,none⟩=some (.int .i64 r.1.owner)/\W.cell? ⟨w.heap.size,3,none⟩=some (.int .i64 r.1.key)/\W.cell? ⟨w.heap.size,4,none⟩=some (.int .i64 r.1.seq)/\W.cell? ⟨w.heap.size,5,none⟩=some (r.2)/\W.cell? ⟨w.heap.size,6,none⟩=some (.int .i64 r.1.cost)/\W.cell? ⟨w.heap.size,7,none⟩=some (.bool r.1.far)) (first | go_keep | (refine ⟨?_,?_,?_,?_,?_,?_,?_,?_,?_,?_,?_,?_,?_,?_,?_,?_⟩ <;> (rw [hbc.cell (by assumption)];assumption))) (first | (go_at_call 73;refine (HK.out _).mono ?_;rintro e w1 ⟨rfl,hbc⟩))
    go_wp2
    go_ret
    exact⟨Zb6 (by rw [Zmo HPP.out HQQ.out.symm HALL.out]),BWR.trans ((Below.refl _ _).drew.trans (hbc.mono (show w.heap.size<=wr.heap.size by omega)))⟩
  ·have hkn:k=ps.length:=by omega
   have KN:=hide hkn;clear hkn
   go_wp2
   go_ret
   exact⟨Zb6 (by rw [Zn3 (by have h:=HALL.out;rw [KN.out] at h;simpa [fsts] using h)]),BWR⟩
theorem Zcx {P:Program}{fn:Func}{p u:Tmp}{ty:TypeId}(h:fn.results=#[.cell p ty,.tmp u])(tmps:Array Value)(w:World)(g:Nat)(t:TypeId)(cs:Array Value)(fr:Nat × Nat)(d:TypeDesc)
  (hp:tmps.getD p undef=.pointer (some ⟨g,0,none⟩)) (hg:w.heap[g]? = some (.cells cs t fr))
  (hu:P.underlying ty=some d) (hd:(match d with | .struct _ | .array _ _=>true | _=>false)=true) (hi:(P.info? ty).map (·.size)=some cs.size):
  (results fn tmps).run P w=.ok (.tuple #[.agg cs,tmps.getD u undef]) w:=by
 have hp':tmps[p]?.getD undef=.pointer (some ⟨g,0,none⟩):=by simpa using hp
 rw [results_cell_tmp h];simp [hp',asAddr,run_loadVar_row w g t ty cs fr d hg hu hd hi]
def ZeI (xs:List RecD)(r:RecD):RecD:=if atZ xs r<0 then Za6 else xs.getD (atZ xs r).toNat Za6
def Zeh (xs:List RecD)(r:RecD):Bool := !decide (atZ xs r<0)
theorem ZeJ {xs:List RecD}{r:RecD}(h:atZ xs r = -1):ZeI xs r=Za6/\Zeh xs r=false:=by unfold ZeI Zeh;rw [h];exact⟨rfl,rfl⟩
theorem ZhM {xs:List RecD}{r y:RecD}{k:Nat}(h:atZ xs r=(k:Int))(hy:xs[k]? = some y):ZeI xs r=y/\Zeh xs r=true:=by
 unfold ZeI Zeh;rw [h,if_neg (by omega)]
 exact⟨by simp [hy],by simp⟩
theorem Zg0 {ps:List RP}{k:Nat}{y:RecD}(h:(fsts ps)[k]? = some y):∃ p,ps[k]? = some p/\p.1=y:=by
 simp [fsts] at h
 obtain⟨v,hv⟩:=h;exact⟨(y,v),hv,rfl⟩
theorem ZoD {l:List Int}{k:Nat}{z y:Int}(h:l[k]? = some y)(hn:z ∉ l.take k)(hz:z≠y):z ∉ l.take (k+1):=by
 obtain⟨hk,e⟩:=List.getElem?_eq_some_iff.1 h;rw [List.take_succ_eq_append_getElem hk,e];intro hm
 rcases List.mem_append.1 hm with h1 | h1
 ·exact hn h1
 ·exact hz (by simpa using h1)
theorem ZmS (v:Value)(l:List Int)(z:Int)(w:World)(hn:l.length<=1048576)(hv:ZaM w v l w.heap.size):
  Calls Tryz.prog 268 #[v,.int .i64 z] w fun e w'=>∃ r:Int,e=.returned (.int .i64 r)/\(0<=r↔z∈l)/\w=w':=by
 obtain⟨a,cap,rfl⟩:=hv.shape;have HV:=hide hv;clear hv
 go_enter Tryz.func268,Tryz.ntmps268
 go_wp2
 go_loop [8] (fun i=>∃ k:Nat,k<=l.length/\i=.int .i64 k/\Hid (z ∉ l.take k)) (fun i=>l.length-(intOf i).toNat)
 case atStart=>exact ⟨0,by omega,rfl,hide (by simp)⟩
 case round=>
  obtain⟨k,hk,rfl,HNO⟩:=hrel;by_cases hlt:k<l.length
  ·obtain ⟨y,hy⟩:∃ y,l[k]? = some y:=⟨l[k],List.getElem?_eq_getElem hlt⟩
   obtain⟨b,off,cap',hve,hbb,c0⟩:=HV.out.cell k y hy;cases hve
   have hki:(0:Int)<=(k:Int):=by omega
   have hkj:(k:Int)<(l.length:Int):=by omega
   by_cases hzy:z=y
   ·have HM:=hide (show (0:Int)<=(k:Int)↔z∈l from ⟨fun _=>by rw [hzy];exact List.mem_of_getElem? hy,fun _=>by omega⟩)
    have hd:(z==y)=true:=by simpa using hzy
    clear hy hzy
    go_wp2
    go_ret
    exact⟨_,rfl,HM.out,rfl⟩
   ·have HN:=hide (ZoD hy HNO.out hzy)
    have hd:(z==y)=false:=by simpa using hzy
    clear hy hzy
    go_wp2
    go_round
    case rel=>exact ⟨k+1,by omega,by go_num,HN⟩
    case measure=>simp [intOf];omega
  ·have HM:=hide (show (0:Int) <= -1↔z∈l from ⟨fun h0=>by omega,fun hm=>by
    have h:=HNO.out;rw [List.take_of_length_le (by omega)] at h
    exact absurd hm h⟩)
   go_wp2
   go_ret
   exact⟨_,rfl,HM.out,rfl⟩
theorem Znv {a b:Prop} [Decidable a] [Decidable b](h:a↔b):Ending.returned (.bool (decide a))=.returned (.bool (decide b)):=by rw [decide_eq_decide.2 h]
theorem Ziz (v:Value)(l:List Int)(z:Int)(w:World)(hn:l.length<=1048576)(hv:ZaM w v l w.heap.size):
  Calls Tryz.prog 243 #[v,.int .i64 z] w fun e w'=>e=.returned (.bool (decide (z∈l)))/\w=w':=by
 obtain⟨a,cap,rfl⟩:=hv.shape;have HI:=hide (ZmS _ l z w hn hv);clear hv
 go_enter Tryz.func243,Tryz.ntmps243
 go_wp2_with fail
 refine HI.out.mono ?_
 rintro e w1 ⟨r,rfl,hr,rfl⟩;have HR:=hide hr;clear hr
 go_wp2
 go_ret
 exact⟨Znv HR.out,rfl⟩
def ZcT (l:List Int):Nat->List Int
 | 0=>[]
 | k+1=>ZcT l k++(if decide ((k:Int)∈l) then [(k:Int)] else [])
theorem Zgp {l:List Int}{x:Int}:∀ {k:Nat},x∈ZcT l k↔x∈l/\0<=x/\x<(k:Int)
 | 0=>by simp [ZcT] <;> omega
 | k+1=>by
  unfold ZcT;rw [List.mem_append,Zgp]
  constructor
  ·rintro (⟨h1,h2,h3⟩ | h)
   ·exact ⟨h1,h2,by omega⟩
   ·split at h
    ·rename_i h0
     have:x=(k:Int):=by simpa using h
     subst this;exact⟨by simpa using h0,by omega,by omega⟩
    ·simp at h
  ·rintro ⟨h1,h2,h3⟩
   by_cases e:x=(k:Int)
   ·subst e
    right
    rw [if_pos (by simpa using h1)]
    simp
   ·exact .inl ⟨h1,h2,by omega⟩
theorem ZdJ (l:List Int):∀ k:Nat,(ZcT l k).length<=k
 | 0=>by simp [ZcT]
 | k+1=>by
  have:=ZdJ l k;unfold ZcT;rw [List.length_append]
  split <;> simp <;> omega
theorem Zk6 (v:Value)(l:List Int)(hi:Nat)(w:World)(hn:l.length<=1048576)(hv:ZaM w v l hi)(hhi:hi<=w.heap.size):
  Calls Tryz.prog 212 #[v] w fun e w'=>∃ x,e=.returned x/\IntsOwn w' w.heap.size w'.heap.size x (ZcT l 3)/\Below w.heap.size w w':=by
 obtain⟨a,cap,rfl⟩:=hv.shape;have HC:=hide (fun (z:Int) (W:World) (hb:Below w.heap.size w W)=>Ziz (.slice a l.length cap) l z W hn (ZaE.more (ZaE.later hv hb hhi) (Nat.le_trans hhi hb.size)))
 clear hv
 go_enter Tryz.func212,Tryz.ntmps212
 go_wp2
 go_loopw [5,3] (fun i o wr=>∃ (k:Nat) (x:Value),k<=3/\i=.int .i64 (k:Int)/\o=x/\wr.ownsRow w.heap.size 3 1 x (ZcT l k).length (flat intE (ZcT l k))/\Below w.heap.size w wr) (fun i _ _=>4-(intOf i).toNat)
 case atStart=>exact ⟨0,_,by omega,rfl,rfl,World.ownsRow_nil _ _ _ _,Below.refl _ _⟩
 case round=>
  obtain⟨k,x,hk,rfl,rfl,hown,hb⟩:=hrel;obtain⟨xa,xc,rfl⟩:=Zac hown;have hsz:=hb.size;have hrl:=ZdJ l k;have OW:=hide hown;clear hown;by_cases hlt:k<3
  ·have hk3:(k:Int)<3:=by omega
   obtain⟨D,hD⟩:∃ D,D=decide ((k:Int)∈l):=⟨_,rfl⟩;have HST:=hide (show ZcT l (k+1)=ZcT l k++(if D then [(k:Int)] else []) by rw [hD];rfl)
   have HCC:=hide (HC.out (k:Int) wr hb);rw [<-hD] at HCC;clear hD;obtain⟨C,hC⟩:∃ C,C=ZcT l k:=⟨_,rfl⟩;rw [<-hC] at OW HST hrl |-;clear hC
   go_wp2_with fail
   refine HCC.out.mono ?_
   rintro e w1 ⟨rfl,rfl⟩;cases D
   ·have HOW:=hide (show wr.ownsRow w.heap.size 3 1 (.slice xa C.length xc) (ZcT l (k+1)).length (flat intE (ZcT l (k+1))) by rw [HST.out];simpa using OW.out)
    go_wp2
    go_roundw
    case rel=>exact ⟨k+1,_,by omega,by go_num,rfl,HOW.out,hb⟩
    case measure=>simp [intOf];omega
   ·go_wp2_with (first
     | (at_builtin;refine ZaL ZdV (by omega) (by omega) _ rfl _ _ 28 rfl w.heap.size 3 Tryz.underlying28 (.int .i64 0) rfl Tryz.info3 _ C (k:Int) (ZcY _) rfl (OW.out.alloc _) ⟨wr.heap.size,0,none⟩ 1 rfl (Zay (cs:=intE (k:Int))) (by omega) (by simp;omega) ?_))
    intro v' w4 hown' hgrow;have B4:Below w.heap.size w w4:=(hb.alloc hsz _).grown hgrow (by simp;omega) (fun j hj=>(OW.out.lt j hj).1)
    have O4:=hide (show w4.ownsRow w.heap.size 3 1 v' (ZcT l (k+1)).length (flat intE (ZcT l (k+1))) by rw [HST.out];simpa using hown')
    obtain⟨va,vc,rfl⟩:=Zac hown';clear hown' hgrow
    go_wp2
    go_roundw
    case rel=>exact ⟨k+1,_,by omega,by go_num,rfl,O4.out,B4⟩
    case measure=>simp [intOf];omega
  ·have hk3:¬(k:Int)<3:=by omega
   have hkk:k=3:=by omega
   subst hkk;have HE:=hide (IntsOwn.of OW.out);obtain⟨C,hC⟩:∃ C,C=ZcT l 3:=⟨_,rfl⟩;rw [<-hC] at HE |-;have HCC:=hide hC;clear hC OW
   go_wp2
   go_ret
   exact⟨_,rfl,by rw [<-HCC.out];exact HE.out,hb⟩
structure SelfD where
 id:Int
 boot:Int
 net:NetD
 heard:List Int
abbrev Zkh (x:SelfD) (v1 v2 v3 v4:Value):Value:=.agg #[.int .i64 x.id,.int .i64 x.boot,.int .i64 x.net.n,v1,v2,v3,v4]
structure SelfIn (W:World) (v1 v2 v3 v4:Value) (x:SelfD) (ps:List RP) (B:Nat):Prop where
 links:ZaS W v1 x.net.ls B
 things:ZaV W v2 x.net.ts B
 heard:ZaM W v3 x.heard B
 store:Zbn W v4 ps B
def Zpi (W:World)(v:Value)(x:SelfD)(ps:List RP)(B:Nat):Prop:=∃ v1 v2 v3 v4,v=Zkh x v1 v2 v3 v4/\ZaS W v1 x.net.ls B/\ZaV W v2 x.net.ts B/\ZaM W v3 x.heard B/\Zbn W v4 ps B
theorem Zpi.in {W:World}{v:Value}{x:SelfD}{ps:List RP}{B:Nat}(h:Zpi W v x ps B):∃ v1 v2 v3 v4,v=Zkh x v1 v2 v3 v4/\SelfIn W v1 v2 v3 v4 x ps B:=by
 obtain⟨v1,v2,v3,v4,h0,h1,h2,h3,h4⟩:=h;exact⟨v1,v2,v3,v4,h0,h1,h2,h3,h4⟩
theorem SelfIn.later {W W':World}{v1 v2 v3 v4:Value}{x:SelfD}{ps:List RP}{B C:Nat}(h:SelfIn W v1 v2 v3 v4 x ps B)(hb:Below C W W')(hBC:B<=C):SelfIn W' v1 v2 v3 v4 x ps B:=
 ⟨ZaE.later h.links hb hBC,ZaE.later h.things hb hBC,ZaE.later h.heard hb hBC,h.store.later hb hBC⟩
theorem SelfIn.more {W:World}{v1 v2 v3 v4:Value}{x:SelfD}{ps:List RP}{B C:Nat}(h:SelfIn W v1 v2 v3 v4 x ps B)(hBC:B<=C):SelfIn W v1 v2 v3 v4 x ps C:=
 ⟨ZaE.more h.links hBC,ZaE.more h.things hBC,ZaE.more h.heard hBC,h.store.more hBC⟩
theorem SelfIn.then {W W':World}{v1 v2 v3 v4:Value}{x:SelfD}{ps:List RP}(h:SelfIn W v1 v2 v3 v4 x ps W.heap.size)(hb:Below W.heap.size W W'):SelfIn W' v1 v2 v3 v4 x ps W'.heap.size:=(h.later hb (Nat.le_refl _)).more hb.size
structure SelfOwn (W:World) (lo hi:Nat) (v1 v2 v3 v4:Value) (x:SelfD) (ps:List RP) (m1 m2:Nat):Prop where
 o1:lo<=m1
 o2:m1<=m2
 o3:m2<=hi
 links:W.ownsRow lo 174 4 v1 x.net.ls.length (flat lkE x.net.ls)
 ltop:∀ k,v1.ownBlock=some k->k<m1
 things:W.ownsRow lo 120 4 v2 x.net.ts.length (flat thE x.net.ts)
 ttop:∀ k,v2.ownBlock=some k->k<m1
 heard:IntsOwn W m1 m2 v3 x.heard
 store:RecsOwn W m2 hi v4 ps
theorem ZdK {α:Type}{enc:α->List Value}{W:World}{lo hi sz:Nat}{t:TypeId}{v:Value}{l:List α}(h:W.ownsRow lo t sz v l.length (flat enc l))(ht:∀ k,v.ownBlock=some k->k<hi):ZaN enc sz W v l hi:=by
 obtain⟨a,cap,hv,h2⟩:=Zap h;refine⟨a,cap,hv,?_⟩
 rcases h2 with h0 | ⟨b,off,ha,hb1,hx⟩
 ·exact .inl h0
 ·exact .inr ⟨b,off,ha,ht b (by rw [hv,ha];rfl),hx⟩
theorem SelfOwn.in {W:World}{lo hi m1 m2:Nat}{v1 v2 v3 v4:Value}{x:SelfD}{ps:List RP}(h:SelfOwn W lo hi v1 v2 v3 v4 x ps m1 m2):SelfIn W v1 v2 v3 v4 x ps hi where
 links:=ZaE.more (ZdK h.links h.ltop) (Nat.le_trans h.o2 h.o3)
 things:=ZaE.more (ZdK h.things h.ttop) (Nat.le_trans h.o2 h.o3)
 heard:=ZaE.more h.heard.at h.o3
 store:=h.store.at
theorem SelfOwn.keep {W W':World}{lo hi m1 m2:Nat}{v1 v2 v3 v4:Value}{x:SelfD}{ps:List RP}(h:SelfOwn W lo hi v1 v2 v3 v4 x ps m1 m2)(hk:∀ k,lo<=k->k<hi->k<W.heap.size->W'.heap[k]? = W.heap[k]?):SelfOwn W' lo hi v1 v2 v3 v4 x ps m1 m2 where
 o1:=h.o1
 o2:=h.o2
 o3:=h.o3
 links:=Zan h.links (fun k e=>by have h1:=h.links.lt k e;have h2:=h.ltop k e;have:=h.o2;have:=h.o3;exact hk k h1.1 (by omega) h1.2)
 ltop:=h.ltop
 things:=Zan h.things (fun k e=>by have h1:=h.things.lt k e;have h2:=h.ttop k e;have:=h.o2;have:=h.o3;exact hk k h1.1 (by omega) h1.2)
 ttop:=h.ttop
 heard:=h.heard.keep (fun k a b c=>by have:=h.o1;have:=h.o3;exact hk k (by omega) (by omega) c)
 store:=h.store.keep (fun k a b c=>by have:=h.o1;have:=h.o2;exact hk k (by omega) b c)
theorem SelfOwn.below {W W':World}{lo hi m1 m2 B:Nat}{v1 v2 v3 v4:Value}{x:SelfD}{ps:List RP}(h:SelfOwn W lo hi v1 v2 v3 v4 x ps m1 m2)(hb:Below B W W')(hB:hi<=B):SelfOwn W' lo hi v1 v2 v3 v4 x ps m1 m2:=h.keep (fun k _ h2 _=>hb.block k (by omega))
theorem SelfOwn.frame {W W':World}{lo hi m1 m2 l2 h2:Nat}{v1 v2 v3 v4:Value}{x:SelfD}{ps:List RP}(h:SelfOwn W lo hi v1 v2 v3 v4 x ps m1 m2)(hb:Frame l2 h2 W W')(hB:hi<=l2\/h2<=lo):SelfOwn W' lo hi v1 v2 v3 v4 x ps m1 m2:=h.keep (fun k a b c=>hb.block k c (by omega))
theorem SelfOwn.low {W:World}{lo lo' hi m1 m2:Nat}{v1 v2 v3 v4:Value}{x:SelfD}{ps:List RP}(h:SelfOwn W lo hi v1 v2 v3 v4 x ps m1 m2)(hl:lo'<=lo):SelfOwn W lo' hi v1 v2 v3 v4 x ps m1 m2:=
 ⟨Nat.le_trans hl h.o1,h.o2,h.o3,Zaj h.links hl,h.ltop,Zaj h.things hl,h.ttop,h.heard,h.store⟩
structure SelfSrc (W:World) (hi:Nat) (v1 v2 v3 v4:Value) (x:SelfD) (ps:List RP):Prop where
 links:W.ownsRow 0 174 4 v1 x.net.ls.length (flat lkE x.net.ls)
 ltop:∀ k,v1.ownBlock=some k->k<hi
 things:W.ownsRow 0 120 4 v2 x.net.ts.length (flat thE x.net.ts)
 ttop:∀ k,v2.ownBlock=some k->k<hi
 heard:W.ownsRow 0 3 1 v3 x.heard.length (flat intE x.heard)
 htop:∀ k,v3.ownBlock=some k->k<hi
 store:RecsIn W hi v4 ps
theorem SelfOwn.src {W:World}{lo hi m1 m2:Nat}{v1 v2 v3 v4:Value}{x:SelfD}{ps:List RP}(h:SelfOwn W lo hi v1 v2 v3 v4 x ps m1 m2):SelfSrc W hi v1 v2 v3 v4 x ps where
 links:=Zaj h.links (Nat.zero_le _)
 ltop:=fun k e=>by have:=h.ltop k e;have:=h.o2;have:=h.o3;omega
 things:=Zaj h.things (Nat.zero_le _)
 ttop:=fun k e=>by have:=h.ttop k e;have:=h.o2;have:=h.o3;omega
 heard:=Zaj h.heard.row (Nat.zero_le _)
 htop:=fun k e=>by have:=h.heard.top k e;have:=h.o3;omega
 store:=h.store.in
theorem SelfSrc.below {W W':World}{hi B:Nat}{v1 v2 v3 v4:Value}{x:SelfD}{ps:List RP}(h:SelfSrc W hi v1 v2 v3 v4 x ps)(hb:Below B W W')(hB:hi<=B):SelfSrc W' hi v1 v2 v3 v4 x ps where
 links:=Zan h.links (fun k e=>hb.block k (by have:=h.ltop k e;omega))
 ltop:=h.ltop
 things:=Zan h.things (fun k e=>hb.block k (by have:=h.ttop k e;omega))
 ttop:=h.ttop
 heard:=Zan h.heard (fun k e=>hb.block k (by have:=h.htop k e;omega))
 htop:=h.htop
 store:=h.store.below hb hB
theorem SelfSrc.in {W:World}{hi:Nat}{v1 v2 v3 v4:Value}{x:SelfD}{ps:List RP}(h:SelfSrc W hi v1 v2 v3 v4 x ps):SelfIn W v1 v2 v3 v4 x ps hi where
 links:=ZdK h.links h.ltop
 things:=ZdK h.things h.ttop
 heard:=ZdK h.heard h.htop
 store:=h.store.at
def ZbK (ls:List Lk)(f:Int):List Int:=([0,1,2]:List Int).filter fun u=>decide (0<(Zfz ls f u).length)
def ZhB (ls:List Lk)(f:Int):Bool:=decide (1<(ZbK ls f).length)&&((ZbK ls f).head? == some 0)
theorem Zll (z:Int)(zs:List Int):Lib.compact (z::zs)≠[]:=by
 intro h;unfold Lib.compact Lib.compactUpTo at h;rw [List.map_eq_nil_iff,List.filter_eq_nil_iff] at h;exact h 0 (by simp) (Lib.keeps_lt_one _ 0 (by omega))
theorem ZkY (ls:List Lk)(f r:Int):decide (0<(Zfz ls f r).length)=decide (0<(gath ls f r ls.length).length):=by
 unfold Zfz
 apply decide_eq_decide.2
 have h1:=Lib.compact_length_le ((gath ls f r ls.length).mergeSort fun x y=>decide (x<=y))
 rw [List.length_mergeSort] at h1
 constructor
 ·omega
 ·intro h
  have hm:0<((gath ls f r ls.length).mergeSort fun x y=>decide (x<=y)).length:=by rw [List.length_mergeSort];exact h
  generalize ((gath ls f r ls.length).mergeSort fun x y=>decide (x<=y))=zs at hm
  cases zs with
  | nil=>simp at hm
  | cons z zs=>
   cases hc:Lib.compact (z::zs) with
   | nil=>exact absurd hc (Zll z zs)
   | cons=>simp
theorem Zht (ls:List Lk)(v:Int):ZbK ls v=Zbr (fun u=>decide (0<(Zfz ls v u).length)) 0 3:=by
 simp only [ZbK,Zbr,List.filter_cons,List.filter_nil,List.nil_append]
 repeat' split
 all_goals simp_all
theorem Zfe (n:Value)(v tv:Value)(ls:List Lk)(f:Int)(w:World)(hls:ls.length<=1048576)(hv:ZaS w v ls w.heap.size):
  Calls Tryz.prog 89 #[.agg #[n,v,tv],.int .i64 f] w fun e w'=>∃ x,e=.returned x/\w'.ownsRow w.heap.size 3 1 x (ZbK ls f).length (Za5 (ZbK ls f))/\Below w.heap.size w w':=by
 have HV:=hide hv;clear hv;rw [Zht]
 go_enter Tryz.func89,Tryz.ntmps89
 go_wp2
 go_loopw [5,8] (fun x i wr=>∃ k:Nat,k<=3/\i=.int .i64 (0+(k:Int))/\Below w.heap.size w wr/\wr.heap[w.heap.size]? = some (.cells #[n,v,tv] 27)/\wr.ownsRow (w.heap.size+1) 3 1 x (Zbr (fun u=>decide (0<(Zfz ls f u).length)) 0 k).length (Za5 (Zbr (fun u=>decide (0<(Zfz ls f u).length)) 0 k))) (fun _ i _=>4-(intOf i).toNat)
 case atStart=>
  refine⟨0,by omega,rfl,Zas _ _,?_,?_⟩
  ·rw [Below.heap_alloc _ _ _ (show w.heap.size<(w.alloc (.cells #[n,v,tv] 27)).heap.size by simp),heap_alloc_new]
  ·have h0:=World.ownsRow_lit (base:=w.heap.size+1) (w.alloc (.cells #[n,v,tv] 27)) (#[]:Array Value) 0 (by simp) (by decide) (e:=3) (size:=1) rfl
   simpa [Zbr,Za5] using h0
 case round=>
  obtain⟨k,hk,rfl,hb,hx,hown⟩:=hrel;have c0:wr.cell? ⟨w.heap.size,0,none⟩=some n:=by rw [Zaa hx];rfl
  have c1:wr.cell? ⟨w.heap.size,1,none⟩=some v:=by rw [Zaa hx];rfl
  have c2:wr.cell? ⟨w.heap.size,2,none⟩=some tv:=by rw [Zaa hx];rfl
  have hxl:=Zab hx;have HX:=hide hx;have OW:=hide hown;clear hx hown;by_cases hlt:k<3
  ·go_wp2_with fail
   refine (ZmR n v tv ls f _ wr hls (HV.out.then hb)).mono ?_
   rintro e w1 ⟨x1,rfl,hox,b1⟩;obtain⟨a1,cp1,rfl⟩:=Zcs hox;clear hox;have hown1:=Zae OW.out b1 (Nat.le_refl _);have hx1:w1.heap[w.heap.size]? = some (.cells #[n,v,tv] 27):=by rw [b1.block _ hxl];exact HX.out
   have hb1:Below w.heap.size w w1:=hb.trans (b1.mono hb.size);have hz1:=b1.size;have hpl:=Zd0 (fun u=>decide (0<(Zfz ls f u).length)) 0 k
   have HX1:=hide hx1;obtain⟨l2,hl20⟩:∃ l2,l2=Zbr (fun u=>decide (0<(Zfz ls f u).length)) 0 (k+1):=⟨_,rfl⟩
   have HL20:=hide hl20;have hps:Hid (l2=Zbr (fun u=>decide (0<(Zfz ls f u).length)) 0 k++(if decide (0<(Zfz ls f (0+(k:Int))).length) then [0+(k:Int)] else [])):=hl20
   clear hl20;clear b1 hx1 c0 c1 c2 OW HX;generalize Zbr (fun u=>decide (0<(Zfz ls f u).length)) 0 k=l at hown1 hpl hps
   rw [Int.zero_add] at *;rw [ZkY] at hps;generalize (gath ls f (k:Int) ls.length).length=c at hps |-;by_cases hc:0<(c:Int)
   ·have hc':0<c:=by omega
    have hl2:l2=l++[(k:Int)]:=by rw [hps.out];simp [hc']
    clear hc';have HL2:=hide hl2;clear hl2 hps
    go_wp2_with (first
     | (at_builtin;refine Zbj _ rfl _ _ 28 rfl (w.heap.size+1) 3 Tryz.underlying28 Tryz.info3 u5 l (k:Int) rfl (hown1.alloc _) ⟨w1.heap.size,0,none⟩ 1 rfl ?_ (by omega) (by simp;omega) ?_))
    ·rw [add_zero',World.cell?_alloc_at _ _ _ _ rfl];rfl
    intro v' w4 l' hl' hown' hgrow;have hb4:Below w.heap.size w w4:=(hb1.alloc (by omega) _).grown hgrow (by simp;omega) (fun k hk=>by have:=(hown1.lt k hk).1;omega)
    have hx4:w4.heap[w.heap.size]? = some (.cells #[n,v,tv] 27):=by
     rw [hgrow.block _ (by simp;omega) (fun h=>by have:=(hown1.lt _ h.symm).1;omega),Below.heap_alloc _ _ _ (by omega)]
     exact HX1.out
    have e:l'=l2:=by rw [hl'.out,HL2.out]
    subst e;have OW2:=hide hown';have HX4:=hide hx4;clear hgrow hown' hx4 hown1
    go_wp2
    go_roundw
    case rel=>exact ⟨k+1,by omega,by go_num,hb4,HX4.out,by rw [<-HL20.out];exact OW2.out⟩
    case measure=>simp [intOf];omega
   ·have hc':¬0<c:=by omega
    have hl2:l2=l:=by rw [hps.out];simp [hc']
    clear hc';subst hl2;have OW2:=hide hown1;clear hown1 hps
    go_wp2
    go_roundw
    case rel=>exact ⟨k+1,by omega,by go_num,hb1,HX1.out,by rw [<-HL20.out];exact OW2.out⟩
    case measure=>simp [intOf];omega
  ·have hk':k=3:=by omega
   subst hk'
   go_wp2
   go_ret
   exact⟨_,rfl,ZeX OW.out (by omega),hb⟩
theorem ZjN (n:Value)(v tv:Value)(ls:List Lk)(f:Int)(w:World)(hls:ls.length<=1048576)(hv:ZaS w v ls w.heap.size):
  Calls Tryz.prog 90 #[.agg #[n,v,tv],.int .i64 f] w fun e w'=>e=.returned (.bool (ZhB ls f))/\Below w.heap.size w w':=by
 have HV:=hide hv;clear hv
 go_enter Tryz.func90,Tryz.ntmps90
 go_wp2_with fail
 refine (Zfe n v tv ls f _ hls (HV.out.then ((Below.refl _ _).alloc (Nat.le_refl _) _))).mono ?_
 rintro e w1 ⟨x,rfl,hox,b1⟩;have hb1:Below w.heap.size w w1:=((Below.refl w.heap.size w).alloc (Nat.le_refl _) _).trans (b1.mono (by simp))
 obtain⟨zs,hzs⟩:∃ zs,zs=ZbK ls f:=⟨_,rfl⟩;have hB:ZhB ls f=(decide (1<zs.length)&&(zs.head? == some 0)):=by rw [hzs];rfl
 have HB:=hide hB;rw [<-hzs] at hox;clear hB hzs b1;by_cases h1:1<zs.length
 ·obtain ⟨g,cap,rfl,hg,hl⟩:=ZdZ hox (by omega)
  obtain⟨z,zr,rfl⟩:∃ z zr,zs=z::zr:=by
   cases zs with
   | nil=>simp at h1
   | cons z zr=>exact ⟨z,zr,rfl⟩
  have c0:w1.cell? ⟨g,0,none⟩=some (.int .i64 z):=by rw [hox.cellAt 0 (by omega)];rfl
  have hb:(decide (1<(z::zr).length)&&((z::zr).head? == some 0))=(z==0):=by
   rw [decide_eq_true h1];simp
  have HB2:Hid (ZhB ls f=(z==0)):=HB.out.trans hb;generalize (z::zr).length=m at hox h1 hl |-;have h1':(1:Int)<(m:Int):=by omega
  have h0':(0:Int)<(m:Int):=by omega
  clear hox hb HB
  go_wp2
  go_ret
  exact⟨by rw [HB2.out];rfl,hb1⟩
 ·obtain ⟨a,cap,rfl⟩:=Zcs hox
  have hb:(decide (1<zs.length)&&(zs.head? == some 0))=false:=by rw [decide_eq_false h1];rfl
  have HB2:Hid (ZhB ls f=false):=HB.out.trans hb;have h1':¬(1:Int)<(zs.length:Int):=by omega
  clear hox hb HB
  go_wp2
  go_ret
  exact⟨by rw [HB2.out];rfl,hb1⟩
end Go.Proofs.YtadokhjefnkajaaGreat
