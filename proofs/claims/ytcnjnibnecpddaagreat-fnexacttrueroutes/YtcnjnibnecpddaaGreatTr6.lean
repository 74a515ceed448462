/-
  Parts.
-/
import Derived.Test.YtcnjnibnecpddaaGreatTr5
import Derived.Test.YtcnjnibnecpddaaGreatShelfG
namespace Go.Proofs.YtcnjnibnecpddaaGreat
open Go.RowKit
set_option linter.unusedSimpArgs false
set_option linter.unusedVariables false
set_option maxRecDepth 100000
set_option maxHeartbeats 8000000
variable {z:Int}{ps:List RP}{B hi hi' i k lo n:Nat}{q:Nat->Nat}{v:Value}{W W':World}
structure RecsIn (W:World) (hi:Nat) (v:Value) (ps:List RP):Prop where
 row:W.ownsRow 0 39 8 v ps.length (flat encP ps)
 top:∀ k,v.ownBlock=some k->k<hi
 nears:∀ p∈ps,ZaH W 0 hi p
theorem RecsOwn.in (h:RecsOwn W lo hi v ps):RecsIn W hi v ps:=⟨Zaf h.row (Nat.zero_le _),h.top,fun p hp=>(h.nears p hp).wide (Nat.zero_le _) (YA _)⟩
theorem RecsIn.keep (h:RecsIn W hi v ps)(hk:∀ k,k<hi->k<W.heap.size->W'.heap[k]? = W.heap[k]?):RecsIn W' hi v ps where
 row:=Zal h.row (fun k e=>hk k (h.top k e) (h.row.lt k e).2)
 top:=h.top
 nears:=fun p hp=>(h.nears p hp).keep (fun k _ h2 h3=>hk k h2 h3)
theorem RecsIn.below (h:RecsIn W hi v ps)(hb:Below B W W')(hB:hi<=B):RecsIn W' hi v ps:=h.keep (fun k h2 _=>hb.block k (by omega))
theorem RecsIn.wide (h:RecsIn W hi v ps)(hh:hi<=hi'):RecsIn W hi' v ps:=⟨h.row,fun k e=>YAB (h.top k e) hh,fun p hp=>(h.nears p hp).wide (YA _) hh⟩
theorem RecsIn.at (h:RecsIn W hi v ps):ZbG W v ps hi:=by
 refine⟨?_,fun p hp=>(h.nears p hp).at⟩;have h1:=Zan h.row;obtain⟨a,cap,hv,h2⟩:=h1;refine⟨a,cap,hv,?_⟩;rcases h2 with h0 | ⟨b,off,ha,hb1,hx⟩
 ·exact .inl h0
 ·exact .inr ⟨b,off,ha,h.top b (by rw [hv,ha];rfl),hx⟩
theorem Zj2 (v:Value)(ps:List RP)(hi:Nat)(w:World)(hv:RecsIn w hi v ps)(hhi:hi<=w.heap.size)(hn:tot ps<=1048576):
  Calls Tryz.prog 67 #[v] w fun e w'=>∃ x qs,e=.returned x/\fsts qs=fsts ps/\RecsOwn w' w.heap.size w'.heap.size x qs/\T_ w w':=by
 have hnl:=Zby ps;obtain⟨a1,c1,rfl⟩:=Zac hv.row;have HV:=hide hv;clear hv;have R0:=hide (ZcN w w.heap.size (YA _));have B0:T_ w (w.alloc (.cells #[] 39)):=(YAC _ _).alloc (YA _) _
 go_enter Tryz.func67,Tryz.ntmps67
 go_wp2;generalize w.alloc (.cells #[] 39)=w0 at *
 go_loopw [4,3] (fun i o wr=>∃ (k:Nat) (qs:List RP) (u:Value),k<=ps.length/\i=M k/\o=u/\fsts qs=fsts (ps.take k)/\RecsOwn wr w.heap.size wr.heap.size u qs/\T_ w wr) (fun i _ _=>ps.length-(intOf i).toNat)
 case atStart=>exact ⟨0,[],_,by omega,rfl,rfl,by simp [fsts],R0,B0⟩
 case round=>
  obtain⟨k,qs,u,hk,rfl,rfl,hmap,hown,hnx⟩:=hrel;obtain⟨ua,uc,rfl⟩:=Zac hown.row;have hsz:=hnx.size;by_cases hlt:k<ps.length
  ·obtain ⟨p,hp⟩:∃ p,ps[k]? = some p:=⟨ps[k],YAA hlt⟩;have hat:=HV.out.at;obtain⟨b,off,cap',hve,hbb,c0,c1,c2,c3,c4,c5,c6,c7,_⟩:=hat.cells k p hp;cases hve;replace c0:=(hnx.cell (YAB hbb hhi)).trans c0;replace c1:=(hnx.cell (YAB hbb hhi)).trans c1;replace c2:=(hnx.cell (YAB hbb hhi)).trans c2;replace c3:=(hnx.cell (YAB hbb hhi)).trans c3;replace c4:=(hnx.cell (YAB hbb hhi)).trans c4;replace c5:=(hnx.cell (YAB hbb hhi)).trans c5;replace c6:=(hnx.cell (YAB hbb hhi)).trans c6;replace c7:=(hnx.cell (YAB hbb hhi)).trans c7;have hno:=(HV.out.nears p (YAH hp)).keep (W':=wr) (fun j _ h2 _=>hnx.block j (by omega));obtain⟨pa,pc,hpn⟩:=Zac hno.1;have HC:=Zor p.1 p.2 0 wr hno.1 (by have:=ZhQ (YAH hp);omega);unfold recC at HC;rw [hpn] at c5 HC;have HCP:=hide HC;have HP:=hide hp;have HM:=hide hmap;have OW:=hide hown;have HQL:=hide (show qs.length<=1048576 by
    have h1:=congrArg List.length hmap;simp [fsts] at h1;omega)
   clear hp hmap hown hno hpn HC hat;have hki:(0:Int)<=(k:Int):=by omega
   have hkj:(k:Int)<(ps.length:Int):=by omega
   go_wp2_with fail
   refine HCP.out.mono ?_;rintro e w2 ⟨v1,rfl,hn2,b2⟩;obtain⟨n1a,n1c,rfl⟩:=Zac hn2;have b2s:=b2.size
   go_wp2_with (first
    | (at_builtin;refine ZaQ Zax (by omega) (by omega) _ rfl _ _ 29 rfl w.heap.size 39 Tryz.underlying29 (.agg (recC Zbf (.slice none 0 0))) rfl Tryz.infoRec _ qs (p.1,.slice n1a p.1.near.length n1c) (Zb2 _ _ _ _) rfl ((Zad OW.out.row b2 (YA _)).alloc _) (U w2.heap.size 0) 1 rfl (Zar (cs:=encP (p.1,.slice n1a p.1.near.length n1c))) (by have:=HQL.out;omega) (by simp;omega) ?_))
   intro v' w4 hown' hgrow;have ow4:=OW.out.push (p:=(p.1,.slice n1a p.1.near.length n1c)) (b2.alloc b2.size _) (by omega) (ZaH.wide (ZaH.keep ⟨hn2,fun k hk=>(hn2.lt k hk).2⟩ (fun j _ _ h3=>YAL _ _ _ h3)) (YA _) (by simp)) hown' hgrow;obtain⟨va,vc,rfl⟩:=Zac hown';have B4:T_ w w4:=((hnx.trans (b2.mono hsz)).alloc (by omega) _).grown hgrow (by simp;omega) (fun k hk=>(OW.out.row.lt k hk).1);have OW4:=hide ow4;clear ow4 hown' hgrow hn2;go_wp2;go_roundw
   case rel=>exact ⟨k+1,qs++[(p.1,.slice n1a p.1.near.length n1c)],_,by omega,by go_num,rfl,by rw [show fsts (ps.take (k+1))=fsts (ps.take k)++[p.1] from map_take HP.out, <-HM.out];simp [fsts],OW4.out,B4⟩
   case measure=>exact MS_
  ·have hkn:k=ps.length:=by omega
   have KN:=hide hkn;have OW:=hide hown;have HM:=hide hmap;clear hkn hown hmap;go_wp2;go_ret;have h1:=HM.out;rw [KN.out,YAf] at h1
   first
    | exact ⟨_,qs,rfl,h1,OW,hnx⟩
    | exact ⟨_,rfl,qs,h1,OW,hnx⟩
def ordR (x y:RecD):Int:=cmpK (cmpN x.area y.area) (cmpN x.kind y.kind) (cmpN x.owner y.owner) (cmpN x.key y.key)
theorem ZgK (x y:RecD):decide (ordR x y<0)=Zam x y:=Zqj x y
def ZaA (xs:List RecD):Bool:=decide (xs.length<=150)&&ZbV Za2 xs&&ascB ordR xs
theorem Zb8 (v1 v2:Value)(x y:RecD)(w:World):Calls Tryz.prog 132 #[.agg (recC x v1),.agg (recC y v2)] w fun e w'=>e=.returned (M (ordR x y))/\T_ w w':=by
 have HK:=hide Zo2;unfold ordR;have HO:=hide (Zjo x.area x.kind x.owner x.key y.area y.kind y.owner y.key);obtain⟨r,hr⟩:∃ r,r=cmpK (cmpN x.area y.area) (cmpN x.kind y.kind) (cmpN x.owner y.owner) (cmpN x.key y.key):=⟨_,rfl⟩;rw [<-hr] at HO |-;clear hr;unfold recC at *
 go_enter Tryz.func132,Tryz.ntmps132
 go_wp2;obtain⟨w1,hw1⟩:∃ w1,w1=(w.alloc (.cells #[M x.area,M x.kind,M x.owner,M x.key,M x.seq,v1,M x.cost,.bool x.far] 39)).alloc (.cells #[M y.area,M y.kind,M y.owner,M y.key,M y.seq,v2,M y.cost,.bool y.far] 39):=⟨_,rfl⟩;have B1:T_ w w1:=by rw [hw1];exact Zap _ _
 have p0:w1.heap[w.heap.size]? = some (.cells #[M x.area,M x.kind,M x.owner,M x.key,M x.seq,v1,M x.cost,.bool x.far] 39):=by rw [hw1,YAL _ _ _ (by simp),YAE]
 have q0:w1.heap[w.heap.size+1]? = some (.cells #[M y.area,M y.kind,M y.owner,M y.key,M y.seq,v2,M y.cost,.bool y.far] 39):=by
  rw [hw1];have:=YAE (w.alloc (.cells #[M x.area,M x.kind,M x.owner,M x.key,M x.seq,v1,M x.cost,.bool x.far] 39)) (.cells #[M y.area,M y.kind,M y.owner,M y.key,M y.seq,v2,M y.cost,.bool y.far] 39);simpa using this
 rw [<-hw1];clear hw1;have s0:=Zaa p0 0;have s1:=Zaa p0 1;have s2:=Zaa p0 2;have s3:=Zaa p0 3;have s4:=Zaa p0 4;have s5:=Zaa p0 5;have s6:=Zaa p0 6;have s7:=Zaa p0 7;simp at s0 s1 s2 s3 s4 s5 s6 s7;have t0:=Zaa q0 0;have t1:=Zaa q0 1;have t2:=Zaa q0 2;have t3:=Zaa q0 3;have t4:=Zaa q0 4;have t5:=Zaa q0 5;have t6:=Zaa q0 6;have t7:=Zaa q0 7;simp at t0 t1 t2 t3 t4 t5 t6 t7;have hz0:=Zab p0;have hz1:=Zab q0;clear p0 q0;have hz2:=B1.size
 go_region_held3 (fun W=>W.cell? (U w.heap.size 0)=some (M x.area)/\W.cell? (U w.heap.size 1)=some (M x.kind)/\W.cell? (U w.heap.size 2)=some (M x.owner)/\W.cell? (U w.heap.size 3)=some (M x.key)/\W.cell? (U w.heap.size 4)=some (M x.seq)/\W.cell? (U w.heap.size 5)=some (v1)/\W.cell? (U w.heap.size 6)=some (M x.cost)/\W.cell? (U w.heap.size 7)=some (.bool x.far)/\W.cell? (U (w.heap.size+1) 0)=some (M y.area)/\W.cell? (U (w.heap.size+1) 1)=some (M y.kind)/\W.cell? (U (w.heap.size+1) 2)=some (M y.owner)/\W.cell? (U (w.heap.size+1) 3)=some (M y.key)/\W.cell? (U (w.heap.size+1) 4)=some (M y.seq)/\W.cell? (U (w.heap.size+1) 5)=some (v2)/\W.cell? (U (w.heap.size+1) 6)=some (M y.cost)/\W.cell? (U (w.heap.size+1) 7)=some (.bool y.far)) (first | go_keep | (refine ⟨?_,?_,?_,?_,?_,?_,?_,?_,?_,?_,?_,?_,?_,?_,?_,?_⟩ <;> (rw [b4.cell (YAB (YAB (by assumption) b2.size) b3.size),b3.cell (YAB (by assumption) b2.size),b2.cell (by assumption)];assumption)) | (refine ⟨?_,?_,?_,?_,?_,?_,?_,?_,?_,?_,?_,?_,?_,?_,?_,?_⟩ <;> (rw [b3.cell (YAB (by assumption) b2.size),b2.cell (by assumption)];assumption)) | (refine ⟨?_,?_,?_,?_,?_,?_,?_,?_,?_,?_,?_,?_,?_,?_,?_,?_⟩ <;> (rw [b2.cell (by assumption)];assumption))) (first | (go_at_call 189;refine (HO _).mono ?_;rintro e w4 ⟨rfl,b4⟩) | (have hb2:=b2;refine (HK _ _ _ _ _ _ _ _ _).mono ?_;rintro e w3 ⟨rfl,b3⟩) | (refine (HK _ _ _ _ _ _ _ _ _).mono ?_;rintro e w2 ⟨rfl,b2⟩))
 have B2:T_ w w2:=B1.drew.trans (b2.mono B1.size);have B3:T_ w w3:=B2.trans (b3.mono B2.size);have B4:T_ w w4:=B3.trans (b4.mono B3.size);go_wp2;go_ret;exact⟨rfl,B4⟩
theorem Zm3 (v:Value)(ps:List RP)(w:World)(hls:ps.length<=1048576)(hv:ZbG w v ps w.heap.size):
  Calls Tryz.prog 194 #[v,.func (.func 132) #[] #[]] w fun e w'=>e=.returned (.bool (ascB ordR (fsts ps)))/\T_ w w':=by
 obtain⟨a,cap,rfl⟩:=hv.shape;have HV:=hide hv;clear hv;have hfl:(fsts ps).length=ps.length:=by simp [fsts]
 have HFL:=hide hfl;clear hfl
 go_enter Tryz.func194,Tryz.ntmps194
 go_wp2
 go_loopw [5] (fun i wr=>∃ k:Nat,1<=k/\(k<=ps.length\/k=1)/\i=M k/\(∀ j,j<k->Zcm ordR (fsts ps) j=true)/\T_ w wr) (fun i _=>ps.length+1-(intOf i).toNat)
 case atStart=>exact ⟨1,by omega,by omega,rfl,fun j hj=>by (obtain rfl:j=0:=by omega);rfl,YAC _ _⟩
 case round=>
  obtain⟨k,hk1,hk,rfl,hno,hb⟩:=hrel;have HNO:=hide hno;clear hno;by_cases hlt:k<ps.length
  ·obtain ⟨l,hl⟩:∃ l,ps[k]? = some l:=⟨ps[k],YAA hlt⟩;obtain⟨j,hj⟩:∃ j,k=j+1:=⟨k-1,by omega⟩;obtain⟨p,hp⟩:∃ p,ps[j]? = some p:=⟨ps[j],YAA (by omega)⟩;obtain⟨b,off,cap',hve,hbb,c0,c1,c2,c3,c4,c5,c6,c7,_⟩:=HV.out.cells k l hl;cases hve;obtain⟨b',off',cap2,hve2,hbb2,d0,d1,d2,d3,d4,d5,d6,d7,_⟩:=HV.out.cells j p hp;cases hve2;replace c0:=(hb.cell hbb).trans c0;replace c1:=(hb.cell hbb).trans c1;replace c2:=(hb.cell hbb).trans c2;replace c3:=(hb.cell hbb).trans c3;replace c4:=(hb.cell hbb).trans c4;replace c5:=(hb.cell hbb).trans c5;replace c6:=(hb.cell hbb).trans c6;replace c7:=(hb.cell hbb).trans c7;replace d0:=(hb.cell hbb).trans d0;replace d1:=(hb.cell hbb).trans d1;replace d2:=(hb.cell hbb).trans d2;replace d3:=(hb.cell hbb).trans d3;replace d4:=(hb.cell hbb).trans d4;replace d5:=(hb.cell hbb).trans d5;replace d6:=(hb.cell hbb).trans d6;replace d7:=(hb.cell hbb).trans d7;have hat:Zcm ordR (fsts ps) k=decide (ordR p.1 l.1<0):=by rw [hj];exact Zb9 (Zbq hp) (by rw [<-hj];exact Zbq hl)
   have hzr:=hb.size;have hbr:b<wr.heap.size:=by omega
   have hki:(0:Int)<=(k:Int):=by omega
   have hkj:(k:Int)<(ps.length:Int):=by omega
   have hj1:(k:Int)-1=(j:Int):=by omega
   have hj2:(0:Int)<=(j:Int):=by omega
   have hj3:(j:Int)<(ps.length:Int):=by omega
   have hj5:IntKind.i64.wrap (j:Int)=(j:Int):=ZaN _ (by omega) (by omega);have HORD:=hide (Zb8 p.2 l.2 p.1 l.1);have HAT:=hide hat;clear hl hp hat hj;obtain⟨x,hx⟩:∃ x,x=ordR p.1 l.1:=⟨_,rfl⟩;rw [<-hx] at HORD HAT;clear hx;unfold recC at HORD;by_cases hx0:x<0
   ·have hx1:¬(0:Int)<=x:=by omega
    rw [YAc hx0] at HAT;go_wp2
    go_region_held3 (fun W=>W.cell? (U b (off+k*8))=some (M l.1.area)/\W.cell? (U b (off+k*8+1))=some (M l.1.kind)/\W.cell? (U b (off+k*8+2))=some (M l.1.owner)/\W.cell? (U b (off+k*8+3))=some (M l.1.key)/\W.cell? (U b (off+k*8+4))=some (M l.1.seq)/\W.cell? (U b (off+k*8+5))=some (l.2)/\W.cell? (U b (off+k*8+6))=some (M l.1.cost)/\W.cell? (U b (off+k*8+7))=some (.bool l.1.far)/\W.cell? (U b (off+j*8))=some (M p.1.area)/\W.cell? (U b (off+j*8+1))=some (M p.1.kind)/\W.cell? (U b (off+j*8+2))=some (M p.1.owner)/\W.cell? (U b (off+j*8+3))=some (M p.1.key)/\W.cell? (U b (off+j*8+4))=some (M p.1.seq)/\W.cell? (U b (off+j*8+5))=some (p.2)/\W.cell? (U b (off+j*8+6))=some (M p.1.cost)/\W.cell? (U b (off+j*8+7))=some (.bool p.1.far)) (first | go_keep | (refine ⟨?_,?_,?_,?_,?_,?_,?_,?_,?_,?_,?_,?_,?_,?_,?_,?_⟩ <;> (rw [hbc.cell (by assumption)];assumption))) (first | (go_at_call 132;refine (HORD _).mono ?_;rintro e w2 ⟨rfl,hbc⟩))
    go_wp2;exact⟨⟨k+1,by omega,by omega,by go_num,ZaT HNO HAT,hb.drew.trans (hbc.mono hb.size)⟩,by simp [intOf];omega⟩
   ·have hx1:(0:Int)<=x:=by omega
    rw [YAZ hx0] at HAT;have hf:ascB ordR (fsts ps)=false:=ZaW (by rw [HFL.out];exact hlt) HAT;have HF:=hide hf;clear hf;go_wp2
    go_region_held3 (fun W=>W.cell? (U b (off+k*8))=some (M l.1.area)/\W.cell? (U b (off+k*8+1))=some (M l.1.kind)/\W.cell? (U b (off+k*8+2))=some (M l.1.owner)/\W.cell? (U b (off+k*8+3))=some (M l.1.key)/\W.cell? (U b (off+k*8+4))=some (M l.1.seq)/\W.cell? (U b (off+k*8+5))=some (l.2)/\W.cell? (U b (off+k*8+6))=some (M l.1.cost)/\W.cell? (U b (off+k*8+7))=some (.bool l.1.far)/\W.cell? (U b (off+j*8))=some (M p.1.area)/\W.cell? (U b (off+j*8+1))=some (M p.1.kind)/\W.cell? (U b (off+j*8+2))=some (M p.1.owner)/\W.cell? (U b (off+j*8+3))=some (M p.1.key)/\W.cell? (U b (off+j*8+4))=some (M p.1.seq)/\W.cell? (U b (off+j*8+5))=some (p.2)/\W.cell? (U b (off+j*8+6))=some (M p.1.cost)/\W.cell? (U b (off+j*8+7))=some (.bool p.1.far)) (first | go_keep | (refine ⟨?_,?_,?_,?_,?_,?_,?_,?_,?_,?_,?_,?_,?_,?_,?_,?_⟩ <;> (rw [hbc.cell (by assumption)];assumption))) (first | (go_at_call 132;refine (HORD _).mono ?_;rintro e w2 ⟨rfl,hbc⟩))
    go_wp2;go_ret;exact⟨Zai HF,hb.drew.trans (hbc.mono hb.size)⟩
  ·have hall:ascB ordR (fsts ps)=true:=Zbi fun i hi=>HNO i (by have:=HFL.out;omega);have HA:=hide hall;clear hall;go_wp2;go_ret;exact⟨Zai HA,hb⟩
theorem Zlr (v:Value)(ps:List RP)(w:World)(hls:ps.length<=1048576)(hv:ZbG w v ps w.heap.size):
  Calls Tryz.prog 138 #[v] w fun e w'=>e=.returned (.bool (ascB ordR (fsts ps)))/\T_ w w':=by
 have H:=hide (Zm3 v ps w hls hv);obtain⟨a,cap,rfl⟩:=hv.shape;clear hv
 go_enter Tryz.func138,Tryz.ntmps138
 go_wp2_with fail
 refine H.out.mono ?_;rintro e w1 ⟨rfl,b1⟩;go_wp2;go_ret;exact⟨rfl,b1⟩
theorem ZiC {xs:List RecD}(h:¬xs.length<=150):ZaA xs=false:=by unfold ZaA;rw [YAZ h];rfl
theorem ZkE {xs:List RecD}(hk:k<xs.length)(h:okAt Za2 xs k=false):ZaA xs=false:=by unfold ZaA ZbV;rw [ZaW hk h];simp
theorem Zkk (v:Value)(ps:List RP)(w:World)(hn:tot ps<=1048576)(hv:ZbG w v ps w.heap.size):
  Calls Tryz.prog 58 #[v] w fun e w'=>e=.returned (.bool (ZaA (fsts ps)))/\T_ w w':=by
 have hnl:=Zby ps;obtain⟨a,cap,rfl⟩:=hv.shape;have HV:=hide hv;clear hv;have hfl:(fsts ps).length=ps.length:=by simp [fsts]
 by_cases hlong:(150:Int)<(ps.length:Int)
 ·have HF:=hide (ZiC (xs:=fsts ps) (by omega));clear hfl
  go_enter Tryz.func58,Tryz.ntmps58
  go_wp2;go_ret;exact⟨Zai HF,YAC _ _⟩
 have HFL:=hide hfl;clear hfl
 go_enter Tryz.func58,Tryz.ntmps58
 go_wp2
 go_loopw [10] (fun i wr=>∃ k:Nat,k<=ps.length/\i=M k/\(∀ j,j<k->okAt Za2 (fsts ps) j=true)/\T_ w wr) (fun i _=>ps.length-(intOf i).toNat)
 case atStart=>exact ⟨0,by omega,rfl,by omega,YAC _ _⟩
 case round=>
  obtain⟨k,hk,rfl,hall,hnx⟩:=hrel;have HALL:=hide hall;clear hall;have hsz:=hnx.size;by_cases hlt:k<ps.length
  ·obtain ⟨p,hp⟩:∃ p,ps[k]? = some p:=⟨ps[k],YAA hlt⟩;obtain⟨b,off,cap',hve,hbb,c0,c1,c2,c3,c4,c5,c6,c7,hnr⟩:=HV.out.cells k p hp;cases hve;replace c0:=(hnx.cell hbb).trans c0;replace c1:=(hnx.cell hbb).trans c1;replace c2:=(hnx.cell hbb).trans c2;replace c3:=(hnx.cell hbb).trans c3;replace c4:=(hnx.cell hbb).trans c4;replace c5:=(hnx.cell hbb).trans c5;replace c6:=(hnx.cell hbb).trans c6;replace c7:=(hnx.cell hbb).trans c7;have hnr2:=(Zaw.later hnr hnx (YA _)).more hnx.size;obtain⟨pa,pc,hpn⟩:=ZaG.shape hnr;have HOK:=fun o=>Znn p.2 p.1 (wr.alloc o) (by have:=ZhQ (YAH hp);omega) (Zaw.then hnr2 ((YAC _ _).alloc (YA _) o));unfold recC at HOK;rw [hpn] at c5 HOK;have HAT:=ZcE (ok:=Za2) (Zbq hp);obtain⟨q,hq⟩:∃ q,q=Za2 p.1:=⟨_,rfl⟩;rw [<-hq] at HOK HAT;have HOK2:=hide HOK;have HAT2:=hide HAT;clear hp hnr hnr2 hpn HOK HAT hq;have hki:(0:Int)<=(k:Int):=by omega
   have hkj:(k:Int)<(ps.length:Int):=by omega
   go_wp2_with fail
   refine (HOK2 _).mono ?_;rintro e w2 ⟨rfl,b2⟩;have B2:T_ w w2:=(hnx.alloc hsz _).trans (b2.mono (by simp;omega));cases q
   ·have HF:=hide (ZkE (by rw [HFL.out];exact hlt) HAT2);go_wp2;go_ret;exact⟨Zai HF,B2⟩
   ·go_wp2;go_roundw
    case rel=>exact ⟨k+1,by omega,by go_num,ZaT HALL HAT2,B2⟩
    case measure=>exact MS_
  ·have e1:ZbV Za2 (fsts ps)=true:=Zbi fun i hi=>HALL i (by have:=HFL.out;omega);have e2:ZaA (fsts ps)=ascB ordR (fsts ps):=by
    unfold ZaA;rw [e1,YAc (by have:=HFL.out;omega)];rfl
   have HE:=hide e2;have HIO:=hide (Zlr (.slice a ps.length cap) ps wr (by omega) ((HV.out.later hnx (YA _)).more hsz));clear e1 e2
   go_wp2_with fail
   refine HIO.out.mono ?_;rintro e w2 ⟨rfl,b2⟩;go_wp2;go_ret;exact⟨Zai HE,hnx.trans (b2.mono hsz)⟩
theorem Zro {l:List Int}{y:Int}(h:l[k]? = some y)(hn:z ∉ l.take k)(hz:z≠y):z ∉ l.take (k+1):=by
 obtain⟨hk,e⟩:=YAD.1 h;rw [YAI hk,e];simp [hn,hz]
theorem ZpG (v:Value)(l:List Int)(z:Int)(w:World)(hn:l.length<=1048576)(hv:ZaI w v l w.heap.size):
  Calls Tryz.prog 254 #[v,M z] w fun e w'=>e=.returned (.bool (decide (z∈l)))/\T_ w w':=by
 obtain⟨R,hR⟩:∃ R,R=decide (z∈l):=⟨_,rfl⟩;rw [<-hR];have HR:=hide hR;clear hR;obtain⟨a,cap,rfl⟩:=hv.shape;have HV:=hide hv;clear hv
 go_enter Tryz.func254,Tryz.ntmps254
 go_wp2
 go_loopw [5] (fun i wr=>∃ k:Nat,k<=l.length/\i=M k/\Hid (z ∉ l.take k)/\T_ w wr) (fun i _=>l.length-(intOf i).toNat)
 case atStart=>exact ⟨0,by omega,rfl,hide (by simp),YAC _ _⟩
 case round=>
  obtain⟨k,hk,rfl,HNO,hnx⟩:=hrel;by_cases hlt:k<l.length
  ·obtain ⟨y,hy⟩:∃ y,l[k]? = some y:=⟨l[k],YAA hlt⟩;obtain⟨b,off,cap',hve,hbb,c0⟩:=HV.out.cell k y hy;cases hve;replace c0:=(hnx.cell hbb).trans c0;have hki:(0:Int)<=(k:Int):=by omega
   have hkj:(k:Int)<(l.length:Int):=by omega
   by_cases hzy:z=y
   ·subst hzy;have HF:=hide (show R=true by rw [HR.out];exact YAc (YAH hy));clear hy;go_wp2
    (try go_quiet (fail))
    (try go_wp2)
    go_ret;exact⟨Zai HF,by first | exact hnx | exact hnx.trans ⟨rfl,rfl,rfl,YA _,fun _ _=>rfl⟩⟩
   ·have HN:=hide (Zro hy HNO hzy);have hyz:¬y=z:=fun e=>hzy e.symm;have hd:(y==z)=false:=by simpa using hyz
    clear hy;go_wp2
    (try go_quiet (fail))
    (try go_wp2)
    go_roundw
    case rel=>exact ⟨k+1,by omega,by go_num,HN,by first | exact hnx | exact hnx.trans ⟨rfl,rfl,rfl,YA _,fun _ _=>rfl⟩⟩
    case measure=>exact MS_
  ·have HF:=hide (show R=false by
    rw [HR.out];have h:=HNO.out;rw [YAP (by omega)] at h;exact YAZ h)
   go_wp2;go_ret;exact⟨Zai HF,hnx⟩
def addT (a b:List Int):Nat->List Int
 | 0=>[]
 | k+1=>addT a b k++(if (k:Int)+1∈a\/(k:Int)+1∈b then [(k:Int)+1] else [])
def addL (a b:List Int):List Int:=addT a b 6
theorem ZiJ (a b:List Int)(k:Nat):(addT a b k).length<=k:=by
 induction k with
 | zero=>simp [addT]
 | succ k ih=>
  unfold addT;rw [YAO]
  split <;> simp <;> omega
theorem ZbU (v1 v2:Value)(xs ys:List Int)(w:World)(hx:xs.length<=1048576)(hy:ys.length<=1048576)(h1:ZaI w v1 xs w.heap.size)(h2:ZaI w v2 ys w.heap.size):
  Calls Tryz.prog 226 #[v1,v2] w fun e w'=>∃ x,e=.returned x/\w'.ownsRow w.heap.size 3 1 x (addL xs ys).length (flat intE (addL xs ys))/\T_ w w':=by
 obtain⟨a1,c1,rfl⟩:=h1.shape;obtain⟨a2,c2,rfl⟩:=h2.shape;have HI1:=hide (fun z W (hb:T_ w W)=>ZpG (.slice a1 xs.length c1) xs z W hx ((Zaw.later h1 hb (YA _)).more hb.size));have HI2:=hide (fun z W (hb:T_ w W)=>ZpG (.slice a2 ys.length c2) ys z W hy ((Zaw.later h2 hb (YA _)).more hb.size));have O0:=hide (Zdw w w.heap.size w.heap.size rfl (YA _));have B0:T_ w (w.alloc (.cells #[] 3)):=(YAC _ _).alloc (YA _) _;clear h1 h2
 go_enter Tryz.func226,Tryz.ntmps226
 go_wp2;generalize w.alloc (.cells #[] 3)=w0 at *
 go_loopw [6,5] (fun i o wr=>∃ (k:Nat) (l:List Int) (u:Value),k<=6/\i=M ((k:Int)+1)/\o=u/\Hid (l=addT xs ys k)/\wr.ownsRow w.heap.size 3 1 u l.length (flat intE l)/\T_ w wr) (fun i _ _=>8-(intOf i).toNat)
 case atStart=>exact ⟨0,[],_,by omega,rfl,rfl,hide rfl,O0,B0⟩
 case round=>
  obtain⟨k,l,u,hk,rfl,rfl,HL,hown,hnx⟩:=hrel;obtain⟨ua,uc,rfl⟩:=Zac hown;have hsz:=hnx.size;have hll:l.length<=6:=by rw [HL.out];have:=ZiJ xs ys k;omega
  have OW:=hide hown;clear hown;by_cases hlt:k<6
  ·have hk6:(k:Int)+1<=6:=by omega
   have hw1:IntKind.i64.wrap ((k:Int)+1+1)=((k+1:Nat):Int)+1:=by rw [ZaN _ (by omega) (by omega)];omega
   obtain⟨P,hP⟩:∃ P,P=decide ((k:Int)+1∈xs):=⟨_,rfl⟩;obtain⟨Q,hQ⟩:∃ Q,Q=decide ((k:Int)+1∈ys):=⟨_,rfl⟩;have H1:=HI1.out ((k:Int)+1);have H2:=HI2.out ((k:Int)+1);rw [<-hP] at H1;rw [<-hQ] at H2;have J1:=hide H1;have J2:=hide H2;have HST:=hide (show addT xs ys (k+1)=l++(if P=true\/Q=true then [(k:Int)+1] else []) by
    rw [HL.out,hP,hQ];simp [addT])
   clear H1 H2 hP hQ HI1 HI2;cases P
   ·go_wp2_with fail
    refine (J1 _ hnx).mono ?_;rintro e w2 ⟨rfl,b2⟩;have b2s:=b2.size
    go_wp2_with fail
    refine (J2 _ (hnx.trans (b2.mono hsz))).mono ?_;rintro e w3 ⟨rfl,b3⟩;have b3s:=b3.size;have B3:T_ wr w3:=b2.trans (b3.mono b2s);clear b2 b3;cases Q
    ·have HN:=hide (show l=addT xs ys (k+1) by rw [HST.out];simp);have OW3:=hide (Zad OW B3 (YA _));go_wp2;go_roundw
     case rel=>exact ⟨k+1,l,_,by omega,rfl,rfl,HN,OW3,hnx.trans (B3.mono hsz)⟩
     case measure=>exact MS_
    ·have HN:=hide (show l++[(k:Int)+1]=addT xs ys (k+1) by rw [HST.out];simp)
     go_wp2_with (first
      | (at_builtin;refine ZaQ ZeE (by omega) (by omega) _ rfl _ _ 28 rfl w.heap.size 3 Tryz.underlying28 (M 0) rfl Tryz.info3 _ l ((k:Int)+1) (ZcM _) rfl ((Zad OW B3 (YA _)).alloc _) (U w3.heap.size 0) 1 rfl (Zar (cs:=intE ((k:Int)+1))) (by omega) (by simp;omega) ?_))
     intro v' w4 hown' hgrow;obtain⟨va,vc,rfl⟩:=Zac hown';have B4:T_ w w4:=((hnx.trans (B3.mono hsz)).alloc (by omega) _).grown hgrow (by simp;omega) (fun j hj=>(OW.out.lt j hj).1);have OW4:=hide hown';clear hown' hgrow;go_wp2;go_roundw
     case rel=>exact ⟨k+1,l++[(k:Int)+1],_,by omega,rfl,rfl,HN,(by simpa using OW4.out),B4⟩
     case measure=>exact MS_
   ·have HN:=hide (show l++[(k:Int)+1]=addT xs ys (k+1) by rw [HST.out];simp)
    go_wp2_with fail
    refine (J1 _ hnx).mono ?_;rintro e w3 ⟨rfl,B3⟩;have b3s:=B3.size
    go_wp2_with (first
     | (at_builtin;refine ZaQ ZeE (by omega) (by omega) _ rfl _ _ 28 rfl w.heap.size 3 Tryz.underlying28 (M 0) rfl Tryz.info3 _ l ((k:Int)+1) (ZcM _) rfl ((Zad OW B3 (YA _)).alloc _) (U w3.heap.size 0) 1 rfl (Zar (cs:=intE ((k:Int)+1))) (by omega) (by simp;omega) ?_))
    intro v' w4 hown' hgrow;obtain⟨va,vc,rfl⟩:=Zac hown';have B4:T_ w w4:=((hnx.trans (B3.mono hsz)).alloc (by omega) _).grown hgrow (by simp;omega) (fun j hj=>(OW.out.lt j hj).1);have OW4:=hide hown';clear hown' hgrow;go_wp2;go_roundw
    case rel=>exact ⟨k+1,l++[(k:Int)+1],_,by omega,rfl,rfl,HN,(by simpa using OW4.out),B4⟩
    case measure=>exact MS_
  ·have hk6:¬(k:Int)+1<=6:=by omega
   have KN:=hide (show l=addL xs ys by rw [HL.out,show k=6 by omega];rfl);go_wp2;go_ret;have h:=OW.out;rw [KN.out] at h;exact⟨_,by rw [KN.out];rfl,h,hnx⟩
theorem Zaz {P:Program}{fn:Func}{p u:Tmp}{ty:TypeId}(h:fn.results=#[.cell p ty,.tmp u])(tmps:Array Value)(w:World)(g:Nat)(t:TypeId)(cs:Array Value)(fr:Nat × Nat)(d:TypeDesc)
  (hp:tmps.getD p undef=.pointer (some (U g 0))) (hg:w.heap[g]? = some (.cells cs t fr))
  (hu:P.underlying ty=some d) (hd:(match d with | .struct _ | .array _ _=>true | _=>false)=true) (hi:(P.info? ty).map (·.size)=some cs.size):
  (results fn tmps).run P w=.ok (.tuple #[.agg cs,tmps.getD u undef]) w:=by
 have hp':tmps[p]?.getD undef=.pointer (some (U g 0)):=by simpa using hp
 rw [results_cell_tmp h];simp [hp',asAddr,run_loadVar_row w g t ty cs fr d hg hu hd hi]
def Zbl (xs:List WayD)(z:Int):WayD:=(xs.find? (fun x=>x.to==z)).getD Zbo
def Zbe (xs:List WayD)(z:Int):Bool:=(xs.find? (fun x=>x.to==z)).isSome
theorem ZkR {ps:List WP}{p:WP}(h:ps[k]? = some p)(hno:∀ q∈ps.take k,q.1.to≠z)(hz:p.1.to=z):Zbl (Zag ps) z=p.1/\Zbe (Zag ps) z=true:=by
 have e:(Zag ps).find? (fun x=>x.to==z)=some p.1:=by
  have h1:=Zc2 h;obtain⟨hk,e1⟩:=YAD.1 h1;rw [List.find?_eq_some_iff_append];refine⟨by simpa using hz,(Zag ps).take k,(Zag ps).drop (k+1),?_,?_⟩
  ·rw [<-e1, <-YAk hk,YAa]
  ·intro x hx;have e2:(Zag ps).take k=Zag (ps.take k):=by simp [Zag]
   rw [e2] at hx;simp only [Zag,YAV] at hx;obtain⟨q,hq,rfl⟩:=hx;simpa using hno q hq
 unfold Zbl Zbe;rw [e];exact⟨rfl,rfl⟩
theorem ZiF {ps:List WP}(hno:∀ q∈ps,q.1.to≠z):Zbl (Zag ps) z=Zbo/\Zbe (Zag ps) z=false:=by
 have e:(Zag ps).find? (fun x=>x.to==z)=none:=by
  rw [List.find?_eq_none];intro x hx;simp only [Zag,YAV] at hx;obtain⟨q,hq,rfl⟩:=hx;simpa using hno q hq
 unfold Zbl Zbe;rw [e];exact⟨rfl,rfl⟩
theorem ZmU {ps:List WP}{p:WP}(h:ps[k]? = some p)(hno:∀ q∈ps.take k,q.1.to≠z)(hz:p.1.to≠z):∀ q∈ps.take (k+1),q.1.to≠z:=by
 obtain⟨hk,e⟩:=YAD.1 h;rw [YAI hk,e];intro q hq;rcases YAF.1 hq with h1 | h1
 ·exact hno q h1
 ·have:q=p:=by simpa using h1
  subst this;exact hz
theorem Zcl (v:Value)(ps:List WP)(lo hi:Nat)(z:Int)(w:World)(hv:WaysOwn w lo hi v ps)(hhi:hi<=w.heap.size)(hn:totW ps<=1048576):
  Calls Tryz.prog 196 #[v,M z] w fun e w'=>∃ u,e=.returned (.tuple #[.agg (wayC (Zbl (Zag ps) z) u),.bool (Zbe (Zag ps) z)])/\w'.ownsRow w.heap.size 3 1 u (Zbl (Zag ps) z).hops.length (flat intE (Zbl (Zag ps) z).hops)/\T_ w w':=by
 have hnl:=ZeR ps;obtain⟨D,hD⟩:∃ D,D=Zbl (Zag ps) z:=⟨_,rfl⟩;obtain⟨F,hF⟩:∃ F,F=Zbe (Zag ps) z:=⟨_,rfl⟩;rw [<-hD, <-hF];have HD:=hide hD;have HF:=hide hF;clear hD hF;obtain⟨a1,c1,rfl⟩:=Zac hv.row;have HV:=hide hv;clear hv;have BX:T_ w (w.alloc (.cells #[M 0,M 0,.slice none 0 0] 193)):=(YAC _ _).alloc (YA _) _;have hq:=YAE w (.cells #[M 0,M 0,.slice none 0 0] 193);obtain⟨w0,hw0⟩:∃ W,W=w.alloc (.cells #[M 0,M 0,.slice none 0 0] 193):=⟨_,rfl⟩;rw [<-hw0] at BX hq;have hs0:=Zab hq;have HQ:=hide hq;clear hq;unfold wayC
 go_enter Tryz.func196,Tryz.ntmps196
 go_wp2;rw [<-hw0];clear hw0
 go_loopw [6] (fun i wr=>∃ k:Nat,k<=ps.length/\i=M k/\Hid (∀ q∈ps.take k,q.1.to≠z)/\T_ w0 wr) (fun i _=>ps.length-(intOf i).toNat)
 case atStart=>exact ⟨0,by omega,rfl,hide (by simp),YAC _ _⟩
 case round=>
  obtain⟨k,hk,rfl,HNO,hnx⟩:=hrel;have hsz:=hnx.size;have BWR:T_ w wr:=BX.trans (hnx.mono (by omega));have hz1:=(hnx.block _ hs0).trans HQ;by_cases hlt:k<ps.length
  ·obtain ⟨p,hp⟩:∃ p,ps[k]? = some p:=⟨ps[k],YAA hlt⟩;obtain⟨b,off,cp,hve,hbb,c0,c1,c2,_⟩:=HV.out.at.cells k p hp;cases hve;have hbw:b<w.heap.size:=by omega
   have hno:=HV.out.nears p (YAH hp);obtain⟨pa,pc,hpn⟩:=Zac hno.1;have HCP:=hide (fun W (hb:T_ w W)=>ZgX p.1 p.2 lo W (Zad hno.1 hb (YA _)) (by have:=ZmY (YAH hp);omega));unfold wayC at HCP;rw [hpn] at c2 HCP;replace c0:=(BWR.cell hbw).trans c0;replace c1:=(BWR.cell hbw).trans c1;replace c2:=(BWR.cell hbw).trans c2;have hki:(0:Int)<=(k:Int):=by omega
   have hkj:(k:Int)<(ps.length:Int):=by omega
   by_cases hzz:p.1.to=z
   ·have hh:=ZkR hp HNO hzz;have hDe:D=p.1:=HD.out.trans hh.1;have hFe:F=true:=HF.out.trans hh.2;subst hDe hFe;subst hzz;clear hp hno hpn hh
    go_wp2_with fail
    refine (HCP _ BWR).mono ?_;rintro e w2 ⟨v1,rfl,hn2,b2⟩;obtain⟨na,nc,rfl⟩:=Zac hn2;have b2s:=b2.size;have hz2:=(b2.block _ (Zab hz1)).trans hz1;have u0:=Zaa hz2 0;have u1:=Zaa hz2 1;have u2:=Zaa hz2 2;simp at u0 u1 u2;have fu:=Zae hz2;have FF:=hide (ZdA p.1 (.slice na p.1.hops.length nc) hz2);have G8:=Za7 w2 w.heap.size p.1 (.slice na p.1.hops.length nc);have O3:=hide (Zaf (b0:=w.heap.size) (hn2.kept G8 (by
     cases hv:(Value.slice na p.1.hops.length nc).ownBlock with
     | none=>exact .inl rfl
     | some g=>exact .inr (fun e=>by have:=(hn2.lt g hv).1;simp at e;omega))) (by omega))
    have B2:T_ w w2:=BWR.trans (b2.mono (by omega));have BF:=hide (B2.grown G8 B2.size (fun k hk=>by simp at hk;omega));clear hz2 hn2 b2 G8 hz1
    go_wp2_with fail
    (try simp only [Exit.inBlock,Exit.then])
    refine bodyPost_ret (Zaz rfl _ _ w.heap.size 193 (wayC p.1 (.slice na p.1.hops.length nc)) (0,0) _ rfl FF Tryz.underlying193 rfl (by kernel_rfl)) rfl ?_;exact⟨_,rfl,O3,BF⟩
   ·have HN:=hide (ZmU hp HNO hzz);have hd:(p.1.to==z)=false:=by simpa using hzz
    clear hp hno hpn hz1;go_wp2;go_roundw
    case rel=>exact ⟨k+1,by omega,by go_num,HN,hnx⟩
    case measure=>exact MS_
  ·have hh:=ZiF (ps:=ps) (z:=z) (by have h:=HNO.out;rw [YAP (by omega)] at h;exact h);have hDe:D=Zbo:=HD.out.trans hh.1;have hFe:F=false:=HF.out.trans hh.2;subst hDe hFe;have u0:=Zaa hz1 0;have u1:=Zaa hz1 1;have u2:=Zaa hz1 2;simp at u0 u1 u2;have fu:=Zae hz1;have FF:=hide (ZdA Zbo (.slice none 0 0) hz1);have G8:=hide (Za7 wr w.heap.size Zbo (.slice none 0 0));clear hz1 hh
   go_wp2_with fail
   (try simp only [Exit.inBlock,Exit.then])
   refine bodyPost_ret (Zaz rfl _ _ w.heap.size 193 (wayC Zbo (.slice none 0 0)) (0,0) _ rfl FF Tryz.underlying193 rfl (by kernel_rfl)) rfl ?_;exact⟨.slice none 0 0,rfl,YAX _ _ _ _,BWR.grown G8 BWR.size (fun k hk=>by simp at hk;omega)⟩
def ZdL:Array Oper:=#[{ dst:=some 72,op:=Op.move (Operand.tmp 0),type:=29,pos := "l07_route.go:75",after:=#[],guard:=none }, { dst:=some 73,op:=Op.move (Operand.tmp 11),type:=247,pos := "l07_route.go:75",after:=#[],guard:=none }, { dst:=some 74,op:=Op.move (Operand.tmp 18),type:=3,pos := "l07_route.go:75",after:=#[],guard:=none }, { dst:=some 75,op:=Op.indexAddr 247 (Operand.tmp 73) (Operand.tmp 74),type:=0,pos := "l07_route.go:75",after:=#[{ on:=1,ground:=Ground.data }, { on:=2,ground:=Ground.data }],guard:=none }, { dst:=some 76,op:=Op.load 187 (Operand.tmp 75),type:=187,pos := "l07_route.go:75",after:=#[{ on:=3,ground:=Ground.data }],guard:=none }, { dst:=some 77,op:=Op.move (Operand.tmp 1),type:=28,pos := "l07_route.go:75",after:=#[],guard:=none }, { dst:=some 78,op:=Op.move (Operand.tmp 18),type:=3,pos := "l07_route.go:75",after:=#[],guard:=none }, { dst:=some 79,op:=Op.indexAddr 28 (Operand.tmp 77) (Operand.tmp 78),type:=0,pos := "l07_route.go:75",after:=#[{ on:=5,ground:=Ground.data }, { on:=6,ground:=Ground.data }],guard:=none }, { dst:=some 80,op:=Op.load 3 (Operand.tmp 79),type:=3,pos := "l07_route.go:75",after:=#[{ on:=7,ground:=Ground.data }],guard:=none }, { dst:=some 81,op:=Op.move (Operand.tmp 3),type:=3,pos := "l07_route.go:75",after:=#[],guard:=none }, { dst:=some 82,op:=Op.move (Operand.tmp 13),type:=3,pos := "l07_route.go:75",after:=#[],guard:=none }, { dst:=some 83,op:=Op.load 193 (Operand.tmp 16),type:=193,pos := "l07_route.go:75",after:=#[],guard:=none }, { dst:=some 84,op:=Op.move (Operand.tmp 17),type:=4,pos := "l07_route.go:75",after:=#[],guard:=none }, { dst:=some 85,op:=Op.call { callee:=Callee.value (Operand.func 224),args:=#[Operand.tmp 72,Operand.tmp 76,Operand.tmp 80,Operand.tmp 81,Operand.tmp 82,Operand.tmp 83,Operand.tmp 84],argTypes:=#[29,187,3,3,3,193,4] },type:=227,pos := "l07_route.go:75",after:=#[{ on:=0,ground:=Ground.data }, { on:=4,ground:=Ground.data }, { on:=8,ground:=Ground.data }, { on:=9,ground:=Ground.data }, { on:=10,ground:=Ground.data }, { on:=11,ground:=Ground.data }, { on:=12,ground:=Ground.data }],guard:=none }, { dst:=some 71,op:=Op.move (Operand.tmp 85),type:=227,pos := "l07_route.go:75",after:=#[{ on:=13,ground:=Ground.data }],guard:=none }, { dst:=some 86,op:=Op.extract (Operand.tmp 71) 0,type:=193,pos := "l07_route.go:75",after:=#[{ on:=14,ground:=Ground.data }],guard:=none }, { dst:=some 87,op:=Op.extract (Operand.tmp 71) 1,type:=4,pos := "l07_route.go:75",after:=#[{ on:=14,ground:=Ground.data }, { on:=17,ground:=Ground.gcOnly Departure.lateStores }],guard:=none }, { dst:=none,op:=Op.store 193 (Operand.tmp 16) (Operand.tmp 86),type:=0,pos := "l07_route.go:75",after:=#[{ on:=15,ground:=Ground.data }, { on:=13,ground:=Ground.chain }, { on:=0,ground:=Ground.phase }, { on:=1,ground:=Ground.phase }, { on:=2,ground:=Ground.phase }, { on:=3,ground:=Ground.phase }, { on:=4,ground:=Ground.phase }, { on:=5,ground:=Ground.phase }, { on:=6,ground:=Ground.phase }, { on:=7,ground:=Ground.phase }, { on:=8,ground:=Ground.phase }, { on:=9,ground:=Ground.phase }, { on:=10,ground:=Ground.phase }, { on:=11,ground:=Ground.phase }, { on:=12,ground:=Ground.phase }, { on:=13,ground:=Ground.phase }, { on:=14,ground:=Ground.phase }, { on:=15,ground:=Ground.phase }, { on:=16,ground:=Ground.textOnly Departure.lateStores }],guard:=none }, { dst:=some 17,op:=Op.assign (Operand.tmp 87),type:=4,pos := "l07_route.go:75",after:=#[{ on:=16,ground:=Ground.data }, { on:=17,ground:=Ground.chain }, { on:=0,ground:=Ground.phase }, { on:=1,ground:=Ground.phase }, { on:=2,ground:=Ground.phase }, { on:=3,ground:=Ground.phase }, { on:=4,ground:=Ground.phase }, { on:=5,ground:=Ground.phase }, { on:=6,ground:=Ground.phase }, { on:=7,ground:=Ground.phase }, { on:=8,ground:=Ground.phase }, { on:=9,ground:=Ground.phase }, { on:=10,ground:=Ground.phase }, { on:=11,ground:=Ground.phase }, { on:=12,ground:=Ground.phase }, { on:=13,ground:=Ground.phase }, { on:=14,ground:=Ground.phase }, { on:=15,ground:=Ground.phase }, { on:=16,ground:=Ground.phase }, { on:=17,ground:=Ground.phase }],guard:=none }]
theorem Ziv (W:World)(z:Nat)(q:WayD)(u:Value)(b j:Nat)(h:b≠z):(Zbb W z q u).cell? ⟨b,j,none⟩=W.cell? ⟨b,j,none⟩:=by
 have e:(Zbb W z q u).heap[b]? = W.heap[b]? := by
  unfold Zbb;rw [YAU _ ⟨z,2,none⟩ _ _ h,YAU _ ⟨z,1,none⟩ _ _ h,YAU _ ⟨z,0,none⟩ _ _ h]
 simp only [World.cell?,e]
theorem Zom (t2 t4 t5 t6 t7 t8 t9 t10 t12 t14 t15 t19 t20 t21 t22 t23 t24 t25 t26 t27 t28 t29 t30 t31 t32 t33 t34 t35 t36 t37 t38 t39 t40 t41 t42 t43 t44 t45 t46 t47 t48 t49 t50 t51 t52 t53 t54 t55 t56 t57 t58 t59 t60 t61 t62 t63 t64 t65 t66 t67 t68 t69 t70 t71 t72 t73 t74 t75 t76 t77 t78 t79 t80 t81 t82 t83 t84 t85 t86 t87 t88 t89 t90 t91 t92 t93:Value)(W0:World)(rv wv fv0:Value)(g n cap b off m acap z k:Nat)(area src to:Int)(x:WayD)(xa:Option Addr)(xl xc:Nat)(RR:World->WayD->Value->Value->Prop)(Q:Exit->Act->World->Prop)(ops:Array Oper)(hops:Hid (ops=ZdL))(hpan:∀ c a1 a2 w,Q (.panic c) a1 w->Q (.panic c) a2 w)
  (hk0:(0:Int)<=(k:Int)) (hkn:(k:Int)<(n:Int)) (hkm:(k:Int)<(m:Int))
  (hS:(fun W=>W.cell? ⟨g,k,none⟩=some wv/\W.cell? ⟨b,off+k,none⟩=some (.int .i64 area)) W0)
  (d0:W0.cell? ⟨z,0,none⟩=some (.int .i64 x.to)) (d1:W0.cell? ⟨z,1,none⟩=some (.int .i64 x.cost)) (d2:W0.cell? ⟨z,2,none⟩=some (.slice xa xl xc))
  (hgz:g≠z) (hbz:b≠z)
  (HT:Hid (Calls Tryz.prog 224 #[rv,wv,.int .i64 area,.int .i64 src,.int .i64 to,.agg #[.int .i64 x.to,.int .i64 x.cost,.slice xa xl xc],fv0] W0 fun e w'=>∃ (q:WayD) (ua:Option Addr) (ul uc:Nat) (fv:Value),e=.returned (.tuple #[.agg #[.int .i64 q.to,.int .i64 q.cost,.slice ua ul uc],fv])/\RR w' q (.slice ua ul uc) fv))
  (hSR:∀ W q u fv,RR W q u fv->(fun W=>W.cell? ⟨g,k,none⟩=some wv/\W.cell? ⟨b,off+k,none⟩=some (.int .i64 area)) W)
  (hcell:∀ W q u fv,RR W q u fv->∃ y0 y1 y2,W.cell? ⟨z,0,none⟩=some y0/\W.cell? ⟨z,1,none⟩=some y1/\W.cell? ⟨z,2,none⟩=some y2)
  (hfz:∀ W q u fv,RR W q u fv->∀ j,W.frozen? ⟨z,j,none⟩=false)
  (hend:∀ (W:World) (q:WayD) ua ul uc fv,RR W q (.slice ua ul uc) fv->Q .normal { tmps:=#[rv,.slice (some ⟨b,off,none⟩) m acap,t2,.int .i64 src,t4,t5,t6,t7,t8,t9,t10,.slice (some ⟨g,0,none⟩) n cap,t12,.int .i64 to,t14,t15,.pointer (some ⟨z,0,none⟩),fv,.int .i64 (k:Int),t19,t20,t21,t22,t23,t24,t25,t26,t27,t28,t29,t30,t31,t32,t33,t34,t35,t36,t37,t38,t39,t40,t41,t42,t43,t44,t45,t46,t47,t48,t49,t50,t51,t52,t53,t54,t55,t56,t57,t58,t59,t60,t61,t62,t63,t64,t65,t66,t67,t68,t69,t70,.tuple #[.agg #[.int .i64 q.to,.int .i64 q.cost,.slice ua ul uc],fv],rv,.slice (some ⟨g,0,none⟩) n cap,.int .i64 (k:Int),.pointer (some ⟨g,k,none⟩),wv,.slice (some ⟨b,off,none⟩) m acap,.int .i64 (k:Int),.pointer (some ⟨b,off+k,none⟩),.int .i64 area,.int .i64 src,.int .i64 to,.agg #[.int .i64 x.to,.int .i64 x.cost,.slice xa xl xc],fv0,.tuple #[.agg #[.int .i64 q.to,.int .i64 q.cost,.slice ua ul uc],fv],.agg #[.int .i64 q.to,.int .i64 q.cost,.slice ua ul uc],fv,t88,t89,t90,t91,t92,t93],defers:=[] } (Zbb W z q (.slice ua ul uc))):
  wpAnyH Tryz.prog .any ops Q (fun W=>W.cell? ⟨g,k,none⟩=some wv/\W.cell? ⟨b,off+k,none⟩=some (.int .i64 area)) 19 (Array.replicate 19 false) { tmps:=#[rv,.slice (some ⟨b,off,none⟩) m acap,t2,.int .i64 src,t4,t5,t6,t7,t8,t9,t10,.slice (some ⟨g,0,none⟩) n cap,t12,.int .i64 to,t14,t15,.pointer (some ⟨z,0,none⟩),fv0,.int .i64 (k:Int),t19,t20,t21,t22,t23,t24,t25,t26,t27,t28,t29,t30,t31,t32,t33,t34,t35,t36,t37,t38,t39,t40,t41,t42,t43,t44,t45,t46,t47,t48,t49,t50,t51,t52,t53,t54,t55,t56,t57,t58,t59,t60,t61,t62,t63,t64,t65,t66,t67,t68,t69,t70,t71,t72,t73,t74,t75,t76,t77,t78,t79,t80,t81,t82,t83,t84,t85,t86,t87,t88,t89,t90,t91,t92,t93],defers:=[] } W0:=by
 have h13:∀ W (q:WayD) ua ul uc fv,RR W q (.slice ua ul uc) fv->wpAnyH Tryz.prog .any ops Q (fun W=>W.cell? ⟨g,k,none⟩=some wv/\W.cell? ⟨b,off+k,none⟩=some (.int .i64 area)) 5 #[true,true,true,true,true,true,true,true,true,true,true,true,true,true,false,false,false,false,false] { tmps:=#[rv,.slice (some ⟨b,off,none⟩) m acap,t2,.int .i64 src,t4,t5,t6,t7,t8,t9,t10,.slice (some ⟨g,0,none⟩) n cap,t12,.int .i64 to,t14,t15,.pointer (some ⟨z,0,none⟩),fv0,.int .i64 (k:Int),t19,t20,t21,t22,t23,t24,t25,t26,t27,t28,t29,t30,t31,t32,t33,t34,t35,t36,t37,t38,t39,t40,t41,t42,t43,t44,t45,t46,t47,t48,t49,t50,t51,t52,t53,t54,t55,t56,t57,t58,t59,t60,t61,t62,t63,t64,t65,t66,t67,t68,t69,t70,t71,rv,.slice (some ⟨g,0,none⟩) n cap,.int .i64 (k:Int),.pointer (some ⟨g,k,none⟩),wv,.slice (some ⟨b,off,none⟩) m acap,.int .i64 (k:Int),.pointer (some ⟨b,off+k,none⟩),.int .i64 area,.int .i64 src,.int .i64 to,.agg #[.int .i64 x.to,.int .i64 x.cost,.slice xa xl xc],fv0,.tuple #[.agg #[.int .i64 q.to,.int .i64 q.cost,.slice ua ul uc],fv],t86,t87,t88,t89,t90,t91,t92,t93],defers:=[] } W:=by
  intro W q ua ul uc fv hr;have hS:=hSR W _ _ _ hr;obtain⟨y0,y1,y2,f0,f1,f2⟩:=hcell W _ _ _ hr;have fz:=hfz W _ _ _ hr;refine Zb1 14 (oi:=?_) (v:=?_) ?_ (by rw [hops.out];kernel_rfl) ?_ ?_ ?_ hS ?_
  rotate_left 2
  ·rw [hops.out];unfold ZdL;simp only [getS];rfl
  ·rw [hops.out];kernel_rfl
  ·intro W hW;obtain⟨g1,g2⟩:=hW;go_simp <;> with_reducible rfl
  ·exact fun c _ w h=>hpan c _ _ w h
  try simp only [putS]
  refine Zb1 15 (oi:=?_) (v:=?_) ?_ (by rw [hops.out];kernel_rfl) ?_ ?_ ?_ hS ?_
  rotate_left 2
  ·rw [hops.out];unfold ZdL;simp only [getS];rfl
  ·rw [hops.out];kernel_rfl
  ·intro W hW;obtain⟨g1,g2⟩:=hW;go_simp <;> with_reducible rfl
  ·exact fun c _ w h=>hpan c _ _ w h
  try simp only [putS]
  refine Zb1 16 (oi:=?_) (v:=?_) ?_ (by rw [hops.out];kernel_rfl) ?_ ?_ ?_ hS ?_
  rotate_left 2
  ·rw [hops.out];unfold ZdL;simp only [getS];rfl
  ·rw [hops.out];kernel_rfl
  ·intro W hW;obtain⟨g1,g2⟩:=hW;go_simp <;> with_reducible rfl
  ·exact fun c _ w h=>hpan c _ _ w h
  try simp only [putS]
  refine wpAnyH_ready (rs:=[17]) (by rw [hops.out];kernel_rfl) (by simp) ?_;refine AllReadyH.cons (o:=?_) ?_ (fun K hK=>?_) ?_
  rotate_left 1
  ·rw [hops.out];unfold ZdL;simp only [getS];rfl
  ·rw [if_pos (by rfl)];go_simp;have hS2:(fun W=>W.cell? ⟨g,k,none⟩=some wv/\W.cell? ⟨b,off+k,none⟩=some (.int .i64 area)) (Zbb W z q (.slice ua ul uc)):=by
    refine⟨?_,?_⟩
    ·show (Zbb W z q (.slice ua ul uc)).cell? _=_;rw [Ziv W z q _ _ _ hgz];exact hS.1
    ·show (Zbb W z q (.slice ua ul uc)).cell? _=_;rw [Ziv W z q _ _ _ hbz];exact hS.2
   refine hK _ _ hS2 (fun _=>?_);refine wpAnyH_ready (rs:=[18]) (by rw [hops.out];kernel_rfl) (by simp) ?_;refine AllReadyH.cons (o:=?_) ?_ (fun K hK=>?_) ?_
   rotate_left 1
   ·rw [hops.out];unfold ZdL;simp only [getS];rfl
   ·rw [if_pos (by rfl)];go_simp;refine hK _ _ hS2 (fun _=>?_);refine wpAnyH_done (by rw [hops.out];kernel_rfl) ?_ _;exact hend W q ua ul uc fv hr
   exact AllReadyH.nil
  exact AllReadyH.nil
 have h11:wpAnyH Tryz.prog .any ops Q (fun W=>W.cell? ⟨g,k,none⟩=some wv/\W.cell? ⟨b,off+k,none⟩=some (.int .i64 area)) 6 #[true,true,true,true,true,true,true,true,true,true,true,true,true,false,false,false,false,false,false] { tmps:=#[rv,.slice (some ⟨b,off,none⟩) m acap,t2,.int .i64 src,t4,t5,t6,t7,t8,t9,t10,.slice (some ⟨g,0,none⟩) n cap,t12,.int .i64 to,t14,t15,.pointer (some ⟨z,0,none⟩),fv0,.int .i64 (k:Int),t19,t20,t21,t22,t23,t24,t25,t26,t27,t28,t29,t30,t31,t32,t33,t34,t35,t36,t37,t38,t39,t40,t41,t42,t43,t44,t45,t46,t47,t48,t49,t50,t51,t52,t53,t54,t55,t56,t57,t58,t59,t60,t61,t62,t63,t64,t65,t66,t67,t68,t69,t70,t71,rv,.slice (some ⟨g,0,none⟩) n cap,.int .i64 (k:Int),.pointer (some ⟨g,k,none⟩),wv,.slice (some ⟨b,off,none⟩) m acap,.int .i64 (k:Int),.pointer (some ⟨b,off+k,none⟩),.int .i64 area,.int .i64 src,.int .i64 to,.agg #[.int .i64 x.to,.int .i64 x.cost,.slice xa xl xc],fv0,t85,t86,t87,t88,t89,t90,t91,t92,t93],defers:=[] } W0:=by
  refine wpAnyH_ready (rs:=[13]) (by rw [hops.out];kernel_rfl) (by simp) ?_;refine AllReadyH.cons (o:=?_) ?_ (fun K hK=>?_) ?_
  rotate_left 1
  ·rw [hops.out];unfold ZdL;simp only [getS];rfl
  ·rw [if_pos (by rfl)];go_simp;refine HT.out.mono ?_;rintro e w2 ⟨q,ua,ul,uc,fv,rfl,hr⟩;refine hK _ _ (hSR w2 _ _ _ hr) (fun _=>?_);exact h13 w2 q ua ul uc fv hr
  exact AllReadyH.nil
 show wpAnyH Tryz.prog .any ops Q (fun W=>W.cell? ⟨g,k,none⟩=some wv/\W.cell? ⟨b,off+k,none⟩=some (.int .i64 area)) 19 #[false,false,false,false,false,false,false,false,false,false,false,false,false,false,false,false,false,false,false] _ W0;refine Zb1 0 (oi:=?_) (v:=?_) ?_ (by rw [hops.out];kernel_rfl) ?_ ?_ ?_ hS ?_
 rotate_left 2
 ·rw [hops.out];unfold ZdL;simp only [getS];rfl
 ·rw [hops.out];kernel_rfl
 ·intro W hW;obtain⟨g1,g2⟩:=hW;go_simp <;> with_reducible rfl
 ·exact fun c _ w h=>hpan c _ _ w h
 try simp only [putS]
 refine Zb1 1 (oi:=?_) (v:=?_) ?_ (by rw [hops.out];kernel_rfl) ?_ ?_ ?_ hS ?_
 rotate_left 2
 ·rw [hops.out];unfold ZdL;simp only [getS];rfl
 ·rw [hops.out];kernel_rfl
 ·intro W hW;obtain⟨g1,g2⟩:=hW;go_simp <;> with_reducible rfl
 ·exact fun c _ w h=>hpan c _ _ w h
 try simp only [putS]
 refine Zb1 2 (oi:=?_) (v:=?_) ?_ (by rw [hops.out];kernel_rfl) ?_ ?_ ?_ hS ?_
 rotate_left 2
 ·rw [hops.out];unfold ZdL;simp only [getS];rfl
 ·rw [hops.out];kernel_rfl
 ·intro W hW;obtain⟨g1,g2⟩:=hW;go_simp <;> with_reducible rfl
 ·exact fun c _ w h=>hpan c _ _ w h
 try simp only [putS]
 refine Zb1 3 (oi:=?_) (v:=?_) ?_ (by rw [hops.out];kernel_rfl) ?_ ?_ ?_ hS ?_
 rotate_left 2
 ·rw [hops.out];unfold ZdL;simp only [getS];rfl
 ·rw [hops.out];kernel_rfl
 ·intro W hW;obtain⟨g1,g2⟩:=hW;go_simp <;> with_reducible rfl
 ·exact fun c _ w h=>hpan c _ _ w h
 try simp only [putS]
 refine Zb1 4 (oi:=?_) (v:=?_) ?_ (by rw [hops.out];kernel_rfl) ?_ ?_ ?_ hS ?_
 rotate_left 2
 ·rw [hops.out];unfold ZdL;simp only [getS];rfl
 ·rw [hops.out];kernel_rfl
 ·intro W hW;obtain⟨g1,g2⟩:=hW;go_simp <;> with_reducible rfl
 ·exact fun c _ w h=>hpan c _ _ w h
 try simp only [putS]
 refine Zb1 5 (oi:=?_) (v:=?_) ?_ (by rw [hops.out];kernel_rfl) ?_ ?_ ?_ hS ?_
 rotate_left 2
 ·rw [hops.out];unfold ZdL;simp only [getS];rfl
 ·rw [hops.out];kernel_rfl
 ·intro W hW;obtain⟨g1,g2⟩:=hW;go_simp <;> with_reducible rfl
 ·exact fun c _ w h=>hpan c _ _ w h
 try simp only [putS]
 refine Zb1 6 (oi:=?_) (v:=?_) ?_ (by rw [hops.out];kernel_rfl) ?_ ?_ ?_ hS ?_
 rotate_left 2
 ·rw [hops.out];unfold ZdL;simp only [getS];rfl
 ·rw [hops.out];kernel_rfl
 ·intro W hW;obtain⟨g1,g2⟩:=hW;go_simp <;> with_reducible rfl
 ·exact fun c _ w h=>hpan c _ _ w h
 try simp only [putS]
 refine Zb1 7 (oi:=?_) (v:=?_) ?_ (by rw [hops.out];kernel_rfl) ?_ ?_ ?_ hS ?_
 rotate_left 2
 ·rw [hops.out];unfold ZdL;simp only [getS];rfl
 ·rw [hops.out];kernel_rfl
 ·intro W hW;obtain⟨g1,g2⟩:=hW;go_simp <;> with_reducible rfl
 ·exact fun c _ w h=>hpan c _ _ w h
 try simp only [putS]
 refine Zb1 8 (oi:=?_) (v:=?_) ?_ (by rw [hops.out];kernel_rfl) ?_ ?_ ?_ hS ?_
 rotate_left 2
 ·rw [hops.out];unfold ZdL;simp only [getS];rfl
 ·rw [hops.out];kernel_rfl
 ·intro W hW;obtain⟨g1,g2⟩:=hW;go_simp <;> with_reducible rfl
 ·exact fun c _ w h=>hpan c _ _ w h
 try simp only [putS]
 refine Zb1 9 (oi:=?_) (v:=?_) ?_ (by rw [hops.out];kernel_rfl) ?_ ?_ ?_ hS ?_
 rotate_left 2
 ·rw [hops.out];unfold ZdL;simp only [getS];rfl
 ·rw [hops.out];kernel_rfl
 ·intro W hW;obtain⟨g1,g2⟩:=hW;go_simp <;> with_reducible rfl
 ·exact fun c _ w h=>hpan c _ _ w h
 try simp only [putS]
 refine Zb1 10 (oi:=?_) (v:=?_) ?_ (by rw [hops.out];kernel_rfl) ?_ ?_ ?_ hS ?_
 rotate_left 2
 ·rw [hops.out];unfold ZdL;simp only [getS];rfl
 ·rw [hops.out];kernel_rfl
 ·intro W hW;obtain⟨g1,g2⟩:=hW;go_simp <;> with_reducible rfl
 ·exact fun c _ w h=>hpan c _ _ w h
 try simp only [putS]
 refine Zb1 12 (oi:=?_) (v:=?_) ?_ (by rw [hops.out];kernel_rfl) ?_ ?_ ?_ hS ?_
 rotate_left 2
 ·rw [hops.out];unfold ZdL;simp only [getS];rfl
 ·rw [hops.out];kernel_rfl
 ·intro W hW;obtain⟨g1,g2⟩:=hW;go_simp <;> with_reducible rfl
 ·exact fun c _ w h=>hpan c _ _ w h
 try simp only [putS]
 refine wpAnyH_ready (rs:=[11]) (by rw [hops.out];kernel_rfl) (by simp) ?_;refine AllReadyH.cons (o:=?_) ?_ (fun K hK=>?_) ?_
 rotate_left 1
 ·rw [hops.out];unfold ZdL;simp only [getS];rfl
 ·rw [if_pos (by rfl)];go_simp;refine hK _ _ hS (fun _=>?_);exact h11
 exact AllReadyH.nil
theorem Zqa (v:Value)(ls:List Lk)(w:World)(hls:ls.length<=1048576)(hv:ZaV w v ls w.heap.size):
  Calls Tryz.prog 198 #[v,.func (.func 199) #[] #[]] w fun e w'=>e=.returned (.bool (ascB ordL ls))/\T_ w w':=by
 obtain⟨a,cap,rfl⟩:=hv.shape;have HV:=hide hv;clear hv
 go_enter Tryz.func198,Tryz.ntmps198
 go_wp2
 go_loopw [5] (fun i wr=>∃ k:Nat,1<=k/\(k<=ls.length\/k=1)/\i=M k/\(∀ j,j<k->Zcm ordL ls j=true)/\T_ w wr) (fun i _=>ls.length+1-(intOf i).toNat)
 case atStart=>exact ⟨1,by omega,by omega,rfl,fun j hj=>by (obtain rfl:j=0:=by omega);rfl,YAC _ _⟩
 case round=>
  obtain⟨k,hk1,hk,rfl,hno,hb⟩:=hrel;have HNO:=hide hno;clear hno;by_cases hlt:k<ls.length
  ·obtain ⟨l,hl⟩:∃ l,ls[k]? = some l:=⟨ls[k],YAA hlt⟩;obtain⟨j,hj⟩:∃ j,k=j+1:=⟨k-1,by omega⟩;obtain⟨p,hp⟩:∃ p,ls[j]? = some p:=⟨ls[j],YAA (by omega)⟩;obtain⟨b,off,cap',hve,hbb,c0,c1,c2,c3⟩:=HV.out.cells k l hl;cases hve;obtain⟨b',off',cap2,hve2,hbb2,d0,d1,d2,d3⟩:=HV.out.cells j p hp;cases hve2;replace c0:=(hb.cell hbb).trans c0;replace c1:=(hb.cell hbb).trans c1;replace c2:=(hb.cell hbb).trans c2;replace c3:=(hb.cell hbb).trans c3;replace d0:=(hb.cell hbb).trans d0;replace d1:=(hb.cell hbb).trans d1;replace d2:=(hb.cell hbb).trans d2;replace d3:=(hb.cell hbb).trans d3;have hat:Zcm ordL ls k=decide (ordL p l<0):=by rw [hj];exact Zb9 hp (by rw [<-hj];exact hl)
   have hzr:=hb.size;have hbr:b<wr.heap.size:=by omega
   have hki:(0:Int)<=(k:Int):=by omega
   have hkj:(k:Int)<(ls.length:Int):=by omega
   have hj1:(k:Int)-1=(j:Int):=by omega
   have hj2:(0:Int)<=(j:Int):=by omega
   have hj3:(j:Int)<(ls.length:Int):=by omega
   have hj5:IntKind.i64.wrap (j:Int)=(j:Int):=ZaN _ (by omega) (by omega);have HORD:=hide (Zq1 p l);have HAT:=hide hat;have HJ:=hide hj;clear hl hp hat hj;obtain⟨x,hx⟩:∃ x,x=ordL p l:=⟨_,rfl⟩;rw [<-hx] at HORD HAT;clear hx;unfold lkV at HORD;by_cases hx0:x<0
   ·have hx1:¬(0:Int)<=x:=by omega
    rw [YAc hx0] at HAT;go_wp2
    go_region_held3 (fun W=>W.cell? (U b (off+k*4))=some (M l.a)/\W.cell? (U b (off+k*4+1))=some (M l.b)/\W.cell? (U b (off+k*4+2))=some (M l.c)/\W.cell? (U b (off+k*4+3))=some (M l.r)/\W.cell? (U b (off+j*4))=some (M p.a)/\W.cell? (U b (off+j*4+1))=some (M p.b)/\W.cell? (U b (off+j*4+2))=some (M p.c)/\W.cell? (U b (off+j*4+3))=some (M p.r)) (first | go_keep | (refine ⟨?_,?_,?_,?_,?_,?_,?_,?_⟩ <;> (rw [hbc.cell (by assumption)];assumption))) (first | (go_at_call 199;refine (HORD _).mono ?_;rintro e w2 ⟨rfl,hbc⟩))
    go_wp2;exact⟨⟨k+1,by omega,by omega,by go_num,ZaT HNO HAT,hb.drew.trans (hbc.mono hb.size)⟩,by simp [intOf];omega⟩
   ·have hx1:(0:Int)<=x:=by omega
    rw [YAZ hx0] at HAT;have hf:ascB ordL ls=false:=ZaW hlt HAT;have HF:=hide hf;clear hf;go_wp2
    go_region_held3 (fun W=>W.cell? (U b (off+k*4))=some (M l.a)/\W.cell? (U b (off+k*4+1))=some (M l.b)/\W.cell? (U b (off+k*4+2))=some (M l.c)/\W.cell? (U b (off+k*4+3))=some (M l.r)/\W.cell? (U b (off+j*4))=some (M p.a)/\W.cell? (U b (off+j*4+1))=some (M p.b)/\W.cell? (U b (off+j*4+2))=some (M p.c)/\W.cell? (U b (off+j*4+3))=some (M p.r)) (first | go_keep | (refine ⟨?_,?_,?_,?_,?_,?_,?_,?_⟩ <;> (rw [hbc.cell (by assumption)];assumption))) (first | (go_at_call 199;refine (HORD _).mono ?_;rintro e w2 ⟨rfl,hbc⟩))
    go_wp2;go_ret;exact⟨Zai HF,hb.drew.trans (hbc.mono hb.size)⟩
  ·have hall:ascB ordL ls=true:=Zbi fun i hi=>HNO i (by omega);have HA:=hide hall;clear hall;go_wp2;go_ret;exact⟨Zai HA,hb⟩
theorem Zqb (v:Value)(ls:List Th)(w:World)(hls:ls.length<=1048576)(hv:ZaU w v ls w.heap.size):
  Calls Tryz.prog 200 #[v,.func (.func 201) #[] #[]] w fun e w'=>e=.returned (.bool (ascB ordT ls))/\T_ w w':=by
 obtain⟨a,cap,rfl⟩:=hv.shape;have HV:=hide hv;clear hv
 go_enter Tryz.func200,Tryz.ntmps200
 go_wp2
 go_loopw [5] (fun i wr=>∃ k:Nat,1<=k/\(k<=ls.length\/k=1)/\i=M k/\(∀ j,j<k->Zcm ordT ls j=true)/\T_ w wr) (fun i _=>ls.length+1-(intOf i).toNat)
 case atStart=>exact ⟨1,by omega,by omega,rfl,fun j hj=>by (obtain rfl:j=0:=by omega);rfl,YAC _ _⟩
 case round=>
  obtain⟨k,hk1,hk,rfl,hno,hb⟩:=hrel;have HNO:=hide hno;clear hno;by_cases hlt:k<ls.length
  ·obtain ⟨l,hl⟩:∃ l,ls[k]? = some l:=⟨ls[k],YAA hlt⟩;obtain⟨j,hj⟩:∃ j,k=j+1:=⟨k-1,by omega⟩;obtain⟨p,hp⟩:∃ p,ls[j]? = some p:=⟨ls[j],YAA (by omega)⟩;obtain⟨b,off,cap',hve,hbb,c0,c1,c2,c3⟩:=HV.out.cells k l hl;cases hve;obtain⟨b',off',cap2,hve2,hbb2,d0,d1,d2,d3⟩:=HV.out.cells j p hp;cases hve2;replace c0:=(hb.cell hbb).trans c0;replace c1:=(hb.cell hbb).trans c1;replace c2:=(hb.cell hbb).trans c2;replace c3:=(hb.cell hbb).trans c3;replace d0:=(hb.cell hbb).trans d0;replace d1:=(hb.cell hbb).trans d1;replace d2:=(hb.cell hbb).trans d2;replace d3:=(hb.cell hbb).trans d3;have hat:Zcm ordT ls k=decide (ordT p l<0):=by rw [hj];exact Zb9 hp (by rw [<-hj];exact hl)
   have hzr:=hb.size;have hbr:b<wr.heap.size:=by omega
   have hki:(0:Int)<=(k:Int):=by omega
   have hkj:(k:Int)<(ls.length:Int):=by omega
   have hj1:(k:Int)-1=(j:Int):=by omega
   have hj2:(0:Int)<=(j:Int):=by omega
   have hj3:(j:Int)<(ls.length:Int):=by omega
   have hj5:IntKind.i64.wrap (j:Int)=(j:Int):=ZaN _ (by omega) (by omega);have HORD:=hide (Zq2 p l);have HAT:=hide hat;have HJ:=hide hj;clear hl hp hat hj;obtain⟨x,hx⟩:∃ x,x=ordT p l:=⟨_,rfl⟩;rw [<-hx] at HORD HAT;clear hx;unfold thV at HORD;by_cases hx0:x<0
   ·have hx1:¬(0:Int)<=x:=by omega
    rw [YAc hx0] at HAT;go_wp2
    go_region_held3 (fun W=>W.cell? (U b (off+k*4))=some (M l.o)/\W.cell? (U b (off+k*4+1))=some (M l.k)/\W.cell? (U b (off+k*4+2))=some (M l.c)/\W.cell? (U b (off+k*4+3))=some (.bool l.f)/\W.cell? (U b (off+j*4))=some (M p.o)/\W.cell? (U b (off+j*4+1))=some (M p.k)/\W.cell? (U b (off+j*4+2))=some (M p.c)/\W.cell? (U b (off+j*4+3))=some (.bool p.f)) (first | go_keep | (refine ⟨?_,?_,?_,?_,?_,?_,?_,?_⟩ <;> (rw [hbc.cell (by assumption)];assumption))) (first | (go_at_call 201;refine (HORD _).mono ?_;rintro e w2 ⟨rfl,hbc⟩))
    go_wp2;exact⟨⟨k+1,by omega,by omega,by go_num,ZaT HNO HAT,hb.drew.trans (hbc.mono hb.size)⟩,by simp [intOf];omega⟩
   ·have hx1:(0:Int)<=x:=by omega
    rw [YAZ hx0] at HAT;have hf:ascB ordT ls=false:=ZaW hlt HAT;have HF:=hide hf;clear hf;go_wp2
    go_region_held3 (fun W=>W.cell? (U b (off+k*4))=some (M l.o)/\W.cell? (U b (off+k*4+1))=some (M l.k)/\W.cell? (U b (off+k*4+2))=some (M l.c)/\W.cell? (U b (off+k*4+3))=some (.bool l.f)/\W.cell? (U b (off+j*4))=some (M p.o)/\W.cell? (U b (off+j*4+1))=some (M p.k)/\W.cell? (U b (off+j*4+2))=some (M p.c)/\W.cell? (U b (off+j*4+3))=some (.bool p.f)) (first | go_keep | (refine ⟨?_,?_,?_,?_,?_,?_,?_,?_⟩ <;> (rw [hbc.cell (by assumption)];assumption))) (first | (go_at_call 201;refine (HORD _).mono ?_;rintro e w2 ⟨rfl,hbc⟩))
    go_wp2;go_ret;exact⟨Zai HF,hb.drew.trans (hbc.mono hb.size)⟩
  ·have hall:ascB ordT ls=true:=Zbi fun i hi=>HNO i (by omega);have HA:=hide hall;clear hall;go_wp2;go_ret;exact⟨Zai HA,hb⟩
theorem Zpb (w:World)(o:Obj)(z:Int)(t:TypeId):((w.alloc o).alloc (.cells #[M z] t)).cell? (((U (w.heap.size+1) 0):Addr).add 0)=some (M z):=by
 have hs:(w.alloc o).heap.size=w.heap.size+1:=by simp
 rw [add_zero', <-hs];exact Zaa (YAE (w.alloc o) (.cells #[M z] t)) 0
def hit1 (f r:Int)(l:Lk):List Int:=if l.a=f/\l.r=r then [l.b] else []
def hit2 (f r:Int)(l:Lk):List Int:=if l.b=f/\l.r=r then [l.a] else []
def hits (f r:Int)(l:Lk):List Int:=hit1 f r l++hit2 f r l
def gath (ls:List Lk)(f r:Int)(k:Nat):List Int:=(ls.take k).flatMap (hits f r)
theorem Zkc {ls:List Lk}{f r:Int}{l:Lk}(h:ls[k]? = some l):gath ls f r (k+1)=gath ls f r k++hit1 f r l++hit2 f r l:=by
 obtain⟨hk,e⟩:=YAD.1 h;unfold gath;rw [YAI hk,List.flatMap_append,e];simp [hits]
theorem Zqy (f r:Int)(l:Lk):(hits f r l).length<=2:=by
 unfold hits hit1 hit2
 split <;> split <;> simp
theorem Zqs (ls:List Lk)(f r:Int)(k:Nat):(gath ls f r k).length<=2*k:=by
 induction k with
 | zero=>simp [gath]
 | succ k ih=>
  by_cases hk:k<ls.length
  ·have h1:=Zqy f r ls[k];rw [Zkc (YAA hk)];unfold hits at h1;simp only [YAO] at h1 |-
   omega
  ·have e:gath ls f r (k+1)=gath ls f r k:=by unfold gath;rw [YAP (by omega),YAP (by omega)]
   rw [e];omega
def ZgA (ls:List Lk)(f r:Int):List Int:=Lib.compact ((gath ls f r ls.length).mergeSort fun x y=>decide (x<=y))
theorem ZoR (n:Value)(v tv:Value)(ls:List Lk)(f r:Int)(w:World)(hls:ls.length<=1048576)(hv:ZaV w v ls w.heap.size):
  Calls Tryz.prog 168 #[.agg #[n,v,tv],M f,M r] w fun e w'=>∃ x,e=.returned x/\w'.ownsRow w.heap.size 3 1 x (gath ls f r ls.length).length (Za5 (gath ls f r ls.length))/\T_ w w':=by
 obtain⟨a,cap,rfl⟩:∃ a cap,v=.slice a ls.length cap:=by obtain ⟨a,cap,h,_⟩:=hv;exact⟨a,cap,h⟩
 have HV:=hide hv;clear hv
 go_enter Tryz.func168,Tryz.ntmps168
 go_wp2
 go_loopw [7,15] (fun u i wr=>∃ k:Nat,k<=ls.length/\i=M k/\wr.ownsRow w.heap.size 3 1 u (gath ls f r k).length (Za5 (gath ls f r k))/\T_ w wr) (fun _ i _=>ls.length-(intOf i).toNat)
 case atStart=>exact ⟨0,by omega,rfl,⟨by simp [gath,Za5],.inl ⟨rfl,by simp [gath]⟩⟩,(YAC _ _).alloc (YA _) _⟩
 case round=>
  obtain⟨k,hk,rfl,hown,hb⟩:=hrel;have hgl:=Zqs ls f r k;by_cases hlt:k<ls.length
  ·obtain ⟨l,hl⟩:∃ l,ls[k]? = some l:=⟨ls[k],YAA hlt⟩;obtain⟨b,off,cap',hve,hbb,c0,c1,c2,c3⟩:=HV.out.cells k l hl;cases hve;replace c0:=(hb.cell hbb).trans c0;replace c1:=(hb.cell hbb).trans c1;replace c2:=(hb.cell hbb).trans c2;replace c3:=(hb.cell hbb).trans c3;have HG:=hide (Zkc (f:=f) (r:=r) hl);have hbo:=ZiW l;clear hl;obtain⟨la,lb,lc,lr⟩:=l;unfold Zon lkV at hbo;simp only [] at hbo c0 c1 c2 c3;have HBO:=hide hbo;have OW:=hide hown;clear hbo hown;have hzr:=hb.size;generalize hg:gath ls f r k=g at OW hgl HG
   go_wp2_with fail
   refine (HBO _).mono ?_;rintro e w1 ⟨rfl,b1⟩;have ow1:=Zad (OW.out.alloc _) b1 (YA _);have B1:T_ w w1:=(hb.alloc hb.size _).trans (b1.mono (by simp;omega));have OW1:=hide ow1;clear b1 ow1 c0 c1 c2 c3 OW;go_wp2
   go_loopw [7,21] (fun u i wi=>∃ (j:Nat) (h:List Int),j<=2/\i=M j/\h=(if j=0 then g else if j=1 then g++hit1 f r ⟨la,lb,lc,lr⟩ else g++hit1 f r ⟨la,lb,lc,lr⟩++hit2 f r ⟨la,lb,lc,lr⟩)/\wi.ownsRow w.heap.size 3 1 u h.length (Za5 h)/\T_ w wi) (fun _ i _=>2-(intOf i).toNat)
   case atStart=>exact ⟨0,g,by omega,rfl,rfl,OW1,B1⟩
   case round=>
    obtain⟨wz,rfl⟩:∃ wz:World,wz=wr:=⟨_,rfl⟩;clear OW1 B1;obtain⟨j,h,hj,rfl,hh,hown,hb2⟩:=hrel;have hz2:=hb2.size;have hhl:h.length<=2*k+2:=by
     have e1:(hit1 f r ⟨la,lb,lc,lr⟩).length<=1:=by unfold hit1;split <;> simp
     have e2:(hit2 f r ⟨la,lb,lc,lr⟩).length<=1:=by unfold hit2;split <;> simp
     rw [hh]
     split
     ·omega
     ·split <;> simp only [YAO] <;> omega
    have HH:=hide hh;have OW:=hide hown;clear hh hown;obtain rfl | rfl | rfl:j=0\/j=1\/j=2:=by omega
    ·have i0:=fun W=>Zhz W (M la) (M lb) (M lc) (M lr) (M lb) (M la) (M lc) (M lr);by_cases hA:la=f/\lr=r
     ·have e1:(la==f)=true:=by simp [hA.1]
      have e2:(lr==r)=true:=by simp [hA.2]
      have hn:h++[lb]=g++hit1 f r ⟨la,lb,lc,lr⟩:=by
       rw [HH.out];simp [hit1,hA]
      have HN:=hide hn;clear hn hA
      go_wp2_with (first
       | (at_builtin;refine Zbt _ rfl _ _ 28 rfl w.heap.size 3 Tryz.underlying28 Tryz.info3 u7 h lb rfl ((OW.out.alloc _).alloc _) (U (wz.heap.size+1) 0) 1 rfl (Zpb wz _ _ _) (by omega) (by simp;omega) ?_))
      intro v' w5 l' hl' hown' hgrow;have B5:T_ w w5:=((hb2.alloc hb2.size _).alloc (by simp;omega) _).grown hgrow (by simp;omega) (fun k hk=>by have:=(OW.out.lt k hk).1;omega);have OW5:=hide hown';clear hown' hgrow;go_wp2;go_roundw
      case rel=>exact ⟨1,l',by omega,by go_num,by rw [hl'.out,HN.out];rfl,OW5,B5⟩
      case measure=>simp [intOf]
     by_cases hB:la=f
     ·have e1:(la==f)=true:=by simp [hB]
      have e2:(lr==r)=false:=by
       have:¬lr=r:=fun e=>hA ⟨hB,e⟩;simpa using this
      clear hB;have hn:h=g++hit1 f r ⟨la,lb,lc,lr⟩:=by
       rw [HH.out];simp [hit1,hA]
      have HN:=hide hn;clear hn hA;go_wp2;go_roundw
      case rel=>exact ⟨1,h,by omega,by go_num,by rw [HN.out];rfl,OW.out.alloc _,hb2.alloc hb2.size _⟩
      case measure=>simp [intOf]
     ·have e1:(la==f)=false:=by simpa using hB
      clear hB;have hn:h=g++hit1 f r ⟨la,lb,lc,lr⟩:=by
       rw [HH.out];simp [hit1,hA]
      have HN:=hide hn;clear hn hA;go_wp2;go_roundw
      case rel=>exact ⟨1,h,by omega,by go_num,by rw [HN.out];rfl,OW.out.alloc _,hb2.alloc hb2.size _⟩
      case measure=>simp [intOf]
    ·have i0:=fun W=>ZhA W (M la) (M lb) (M lc) (M lr) (M lb) (M la) (M lc) (M lr);by_cases hA:lb=f/\lr=r
     ·have e1:(lb==f)=true:=by simp [hA.1]
      have e2:(lr==r)=true:=by simp [hA.2]
      have hn:h++[la]=g++hit1 f r ⟨la,lb,lc,lr⟩++hit2 f r ⟨la,lb,lc,lr⟩:=by
       rw [HH.out];simp [hit2,hA]
      have HN:=hide hn;clear hn hA
      go_wp2_with (first
       | (at_builtin;refine Zbt _ rfl _ _ 28 rfl w.heap.size 3 Tryz.underlying28 Tryz.info3 u7 h la rfl ((OW.out.alloc _).alloc _) (U (wz.heap.size+1) 0) 1 rfl (Zpb wz _ _ _) (by omega) (by simp;omega) ?_))
      intro v' w5 l' hl' hown' hgrow;have B5:T_ w w5:=((hb2.alloc hb2.size _).alloc (by simp;omega) _).grown hgrow (by simp;omega) (fun k hk=>by have:=(OW.out.lt k hk).1;omega);have OW5:=hide hown';clear hown' hgrow;go_wp2;go_roundw
      case rel=>exact ⟨2,l',by omega,by go_num,by rw [hl'.out,HN.out];rfl,OW5,B5⟩
      case measure=>simp [intOf]
     by_cases hB:lb=f
     ·have e1:(lb==f)=true:=by simp [hB]
      have e2:(lr==r)=false:=by
       have:¬lr=r:=fun e=>hA ⟨hB,e⟩;simpa using this
      clear hB;have hn:h=g++hit1 f r ⟨la,lb,lc,lr⟩++hit2 f r ⟨la,lb,lc,lr⟩:=by
       rw [HH.out];simp [hit2,hA]
      have HN:=hide hn;clear hn hA;go_wp2;go_roundw
      case rel=>exact ⟨2,h,by omega,by go_num,by rw [HN.out];rfl,OW.out.alloc _,hb2.alloc hb2.size _⟩
      case measure=>simp [intOf]
     ·have e1:(lb==f)=false:=by simpa using hB
      clear hB;have hn:h=g++hit1 f r ⟨la,lb,lc,lr⟩++hit2 f r ⟨la,lb,lc,lr⟩:=by
       rw [HH.out];simp [hit2,hA]
      have HN:=hide hn;clear hn hA;go_wp2;go_roundw
      case rel=>exact ⟨2,h,by omega,by go_num,by rw [HN.out];rfl,OW.out.alloc _,hb2.alloc hb2.size _⟩
      case measure=>simp [intOf]
    ·have hn:h=gath ls f r (k+1):=by rw [HG.out,HH.out];rfl
     have HN:=hide hn;clear hn;go_wp2;exact⟨⟨k+1,by omega,by go_num,by rw [<-HN.out];exact OW,hb2⟩,by simp [intOf];omega⟩
  ·have hk':k=ls.length:=by omega
   rw [hk'] at hown;have OW:=hide hown;clear hown hk';go_wp2;go_ret;exact⟨_,rfl,OW,hb⟩
theorem ZoF (n:Nat)(w:World)(hn:n<=1000000):
  Calls Tryz.prog 209 #[.slice none 0 0,M (n:Int)] w fun e w'=>∃ x,e=.returned x/\w'.ownsRow w.heap.size 39 8 x 0 []/\T_ w w':=by
 by_cases h0:n=0
 ·subst h0;have h:=Any8.slices_Grow_room Tryz.growR none 0 0 0 w (YA _) (by omega) (by omega) (by omega);change Calls Tryz.prog 209 _ _ _ at h;exact h.mono fun e w' ⟨h1,h2⟩=>⟨_,h1,by rw [h2];exact YAX _ _ _ _,by rw [h2];exact YAC _ _⟩
 ·have hi:=Tryz.infoRec;cases hf:Tryz.prog.info? 39 with
  | none=>rw [hf] at hi;cases hi
  | some i0=>
   rw [hf] at hi;simp only [Option.map_some,Option.some.injEq,Prod.mk.injEq] at hi;obtain⟨hz,hs,hb⟩:=hi;have h:=Any8.slices_Grow_grow Tryz.growR i0 (.agg (recC Zbf (.slice none 0 0))) hf hz (by rw [hs];omega) none 0 0 n [] w (by omega) (by omega) (by rw [hb];omega) (by omega) (by simp) (fun _=>rfl) (fun a ha=>by cases ha);change Calls Tryz.prog 209 _ _ _ at h;refine h.mono fun e w' ⟨h1,h2⟩=>⟨_,h1,?_,?_⟩
   ·rw [h2];have hg:=grownCap_ge w (0+n) 0 39;have hm:=grownCap_le_maxLen w (0+n) 0 39 (by unfold maxLen;omega);exact World.ownsRow_made (base:=w.heap.size) (e:=39) (size:=8) w.drew _ _ (YA _) hm (by
     rw [Array.size_append,Array.size_append,size_zeroCells,size_zeroCells];rw [show (Value.cells (.agg (recC Zbf (.slice none 0 0)))).size=8 from rfl];simp only [List.size_toArray,List.length_nil];change 0+(0+n-0)*8+(grownCap w (0+n) 0 39-(0+n))*8=grownCap w (0+n) 0 39*8;omega)
   ·rw [h2];exact (YAC w.heap.size w).drew.alloc (YA _) _
theorem Zk5 (ls:List (Value × List RP))(b:Nat)(w:World)(hb:∀ j x,ls[j]? = some x->w.cell? (U b j)=some x.1)(hrows:∀ x∈ls,∃ base,w.ownsRow base 39 8 x.1 x.2.length (flat encP x.2))(hone:∀ x∈ls,∀ p∈x.2,∀ u∈encP p,u.oneCell'=true)(hn:sumL ls<=1000000)(hbl:b<w.heap.size)(hl:ls.length<=10):
  Calls Tryz.prog 156 #[.slice (some (U b 0)) ls.length ls.length] w fun e w'=>∃ x,e=.returned x/\w'.ownsRow w.heap.size 39 8 x (Zb4 ls).length (flat encP (Zb4 ls))/\T_ w w':=by
 have HC:=hide hb;have HR:=hide hrows;have HO:=hide hone;have HG:=hide (fun W=>ZoF (sumL ls) W hn);clear hb hrows hone
 go_enter Tryz.func156,Tryz.ntmps156
 go_wp2
 go_loopw [11,3] (fun i s wr=>∃ (k:Nat),k<=ls.length/\i=M (k:Int)/\s=M ((sumL (ls.take k):Nat):Int)/\T_ w wr) (fun i _ _=>ls.length-(intOf i).toNat)
 case atStart=>exact ⟨0,by omega,rfl,rfl,YAC _ _⟩
 case round=>
  obtain⟨k,hk,rfl,rfl,hnx⟩:=hrel;have hle:=ZcW ls k;by_cases hlt:k<ls.length
  ·obtain ⟨x,hx⟩:∃ x,ls[k]? = some x:=⟨ls[k],YAA hlt⟩;have c0:=HC.out k x hx;replace c0:=(hnx.cell hbl).trans c0;obtain⟨base,hrow⟩:=HR.out x (YAH hx);obtain⟨xa,xc,hxe⟩:=Zac hrow;rw [hxe] at c0;have hst:=ZdQ hx;have hle2:=ZcW ls (k+1);have hki:(0:Int)<=(k:Int):=by omega
   have hkj:(k:Int)<(ls.length:Int):=by omega
   have hneg:¬((sumL (ls.take k):Int)+(x.2.length:Int)<0):=by omega
   have hb2:(sumL (ls.take k):Int)+(x.2.length:Int)<=1000000:=by omega
   have HST:=hide hst;have HN:=hide hnx;clear hx hrow hxe hnx hst hle hle2;go_wp2;go_roundw
   case rel=>exact ⟨k+1,by omega,by go_num,by rw [HST.out];simp,HN⟩
   case measure=>exact MS_
  ·have hkn:¬(k:Int)<(ls.length:Int):=by omega
   have hke:ls.take k=ls:=YAP (by omega);rw [hke];have HN:=hide hnx;clear hke hle hnx
   go_wp2_with fail
   refine (HG _).mono ?_;rintro e w1 ⟨x0,rfl,ho1,b1⟩;obtain⟨xa,xc,rfl⟩:=Zac ho1;have hb1:=b1.size;have hws:=HN.out.size;have HB1:=hide (HN.out.trans (b1.mono hws));have HO1:=hide (Zaf ho1 hws);clear ho1 b1 HN HG
   rename World=>wq
   go_wp2
   go_loopw [27,6] (fun i o wr=>∃ (k:Nat) (x:Value),k<=ls.length/\i=M (k:Int)/\o=x/\wr.ownsRow w.heap.size 39 8 x (Zb4 (ls.take k)).length (flat encP (Zb4 (ls.take k)))/\T_ w wr) (fun i _ _=>ls.length-(intOf i).toNat)
   case atStart=>exact ⟨0,_,by omega,rfl,rfl,HO1,HB1⟩
   case round=>
    obtain⟨j,y,hj,rfl,rfl,hown,hnx⟩:=hrel;clear HO1 HB1;obtain⟨ya,yc,rfl⟩:=Zac hown;have hle:=ZcW ls j;have hsz:=hnx.size;by_cases hlt:j<ls.length
    ·obtain ⟨x,hx⟩:∃ x,ls[j]? = some x:=⟨ls[j],YAA hlt⟩;have c0:=HC.out j x hx;replace c0:=(hnx.cell hbl).trans c0;obtain⟨base,hrow⟩:=HR.out x (YAH hx);have hrow2:=Zad hrow hnx (YA _);obtain⟨za,zc,hxe⟩:=Zac hrow;rw [hxe] at c0 hrow2;have hst:=ZdQ hx;have hle2:=ZcW ls (j+1);have hjt:=Zga hx;have hjl:=Zha (ls.take j);have hki:(0:Int)<=(j:Int):=by omega
     have hkj:(j:Int)<(ls.length:Int):=by omega
     have HX:=hide hrow2;have HW:=hide hown;have HN:=hide hnx;have HJT:=hide hjt;have HX1:=hide (HO x (YAH hx));have hbd:(Zb4 (ls.take j)).length+x.2.length<=1000000000:=by omega
     clear hx hrow hrow2 hxe hnx hown hst hjt hle hle2 hjl
     go_wp2_with (first
      | (at_builtin;refine Zda (fun l=>ZaD Zax l) (by omega) (by omega) _ rfl _ _ 29 rfl w.heap.size 39 Tryz.underlying29 (.agg (recC Zbf (.slice none 0 0))) rfl Tryz.infoRec _ (Zb4 (ls.take j)) rfl HW base _ x.2 HX1 rfl HX (by omega) (by omega) ?_))
     intro v' w4 hown' hgrow;have N1:=hide (show w4.ownsRow w.heap.size 39 8 v' (Zb4 (ls.take (j+1))).length (flat encP (Zb4 (ls.take (j+1)))) by rw [HJT.out,YAO];exact hown');have N2:=hide (HN.out.grown hgrow (by omega) (fun k hk=>(HW.out.lt k hk).1));obtain⟨va,vc,rfl⟩:=Zac hown';clear hown' hgrow HX HW HN HJT HX1;go_wp2;go_roundw
     case rel=>exact ⟨j+1,_,by omega,by go_num,rfl,N1,N2⟩
     case measure=>exact MS_
    ·have hkn2:¬(j:Int)<(ls.length:Int):=by omega
     have hke:ls.take j=ls:=YAP (by omega);rw [hke] at hown |-;have HW:=hide hown;have HN:=hide hnx;clear hown hnx hke hle;go_wp2;go_ret;exact⟨_,rfl,HW,HN⟩
theorem ZeS.symm {p q:RP}(h:ZeS p q):ZeS q p:=fun k hk hp=>h k hp hk
theorem Ziq {W2:World}(h:RecsOwn W lo W.heap.size v ps)(hg:W.grownBy W2 v.ownBlock){q:RP}(hq:ZaH W lo W.heap.size q):ZaH W2 lo W2.heap.size q:=
 ⟨Zal hq.1 (fun j hj=>hg.block j (hq.2 j hj) (Zdf hq h.row j hj)),fun k hk=>YAB (hq.2 k hk) hg.size⟩
theorem RecsOwn.put {g cap:Nat}{r:RP} (h:RecsOwn W lo W.heap.size (.slice (some (U g 0)) n cap) ps) (hn:n=ps.length) (hr:ZaH W lo W.heap.size r) (hap:∀ p∈ps,ZeS p r) (hi:i<ps.length):RecsOwn (putP W g (i*8) r) lo (putP W g (i*8) r).heap.size (.slice (some (U g 0)) n cap) (ps.set i r):=by
 subst hn;have hst:=Zpv (p:=r) h.row hi;have hg:W.grownBy (putP W g (i*8) r) (Value.slice (some (U g 0)) ps.length cap).ownBlock:=ZeM W g (i*8) r;refine⟨by simpa using hst,fun k hk=>(hst.lt k hk).2,?_,?_⟩
 ·intro q hq;refine Ziq h hg ?_;rcases List.mem_or_eq_of_mem_set hq with h1 | h1
  ·exact h.nears q h1
  ·subst h1;exact hr
 ·have hp:=h.apart;rw [YAb] at hp |-;intro a b ha hb hab;simp only [List.length_set] at ha hb;rw [List.getElem_set,List.getElem_set];by_cases e1:i=a
  ·rw [if_pos e1,if_neg (by omega)];exact (hap _ (YAw hb)).symm
  ·rw [if_neg e1];by_cases e2:i=b
   ·rw [if_pos e2];exact hap _ (YAw ha)
   ·rw [if_neg e2];exact hp a b ha hb hab
theorem Zmh (ps:List RP)(r:RP)(i:Nat):fsts (ps.take i++[r]++ps.drop i)=(fsts ps).take i++[r.1]++(fsts ps).drop i:=by simp [fsts]
theorem Zmi (ps:List RP)(r:RP)(i:Nat):fsts (ps.set i r)=(fsts ps).set i r.1:=by simp [fsts,List.map_set]
def ptrV (k:Nat):Value:=.pointer (some (U k 0))
def ptrs (q:Nat->Nat)(n:Nat):List Value:=(List.range n).map (fun i=>ptrV (q i))
theorem Zfi (h:i<n):(ptrs q n)[i]? = some (ptrV (q i)):=by simp [ptrs,h]
theorem ZgL (q:Nat->Nat)(n:Nat):(ptrs q n).length=n:=by simp [ptrs]
structure HQ (W:World) (lo:Nat) (u:Value) (n:Nat) (q:Nat->Nat) (wd:Nat->WayD) (wv:Nat->Value):Prop where
 row:W.ownsRow lo 272 1 u n (ptrs q n)
 way:∀ i,i<n->W.heap[q i]? = some (.cells (wayC (wd (q i)) (wv (q i))) 193)
 sl:∀ i,i<n->∃ a l c,wv (q i)=.slice a l c
theorem HQ.cell {u:Value}{wd:Nat->WayD}{wv:Nat->Value}(h:HQ W lo u n q wd wv)(hi:i<n):∃ g cap,u=.slice (some (U g 0)) n cap/\W.cell? (U g i)=some (ptrV (q i))/\g<W.heap.size:=by
 rcases h.row.2 with ⟨_,e⟩ | ⟨g,cap,cur,hv,_⟩
 ·omega
 ·refine ⟨g,cap,hv,?_,(h.row.lt g (by rw [hv];rfl)).2⟩;have:=World.ownsRow.cellAt (by rw [<-hv];exact h.row) i (by omega);rw [this,Zfi hi]
theorem HQ.below {u:Value}{wd:Nat->WayD}{wv:Nat->Value}(h:HQ W lo u n q wd wv)(hb:T_ W W'):HQ W' lo u n q wd wv:=
 ⟨Zad h.row hb (YA _),fun i hi=>(hb.block _ (Zab (h.way i hi))).trans (h.way i hi),h.sl⟩
theorem ZfJ (W:World)(lo n:Nat)(u:Value)(q:Nat->Nat)(wd:Nat->WayD)(wv:Nat->Value)(i j:Nat)(h:HQ W lo u n q wd wv)(hi:i<n)(hj:j<n):
  Calls Tryz.prog 333 #[u,M (i:Int),M (j:Int)] W fun e W'=>e=.returned (.bool (decide ((wd (q i)).cost<(wd (q j)).cost)))/\T_ W W':=by
 obtain⟨g,cap,rfl,ci,hg⟩:=h.cell hi;obtain⟨g2,cap2,e2,cj,_⟩:=h.cell hj;cases e2;obtain⟨ai,li,ci2,ei⟩:=h.sl i hi;obtain⟨aj,lj,cj2,ej⟩:=h.sl j hj;have wi:=h.way i hi;have wj:=h.way j hj;rw [ei] at wi;rw [ej] at wj;obtain⟨x,hx⟩:∃ x,x=wd (q i):=⟨_,rfl⟩;obtain⟨y,hy⟩:∃ y,y=wd (q j):=⟨_,rfl⟩;obtain⟨p,hp⟩:∃ p,p=q i:=⟨_,rfl⟩;obtain⟨r,hr⟩:∃ r,r=q j:=⟨_,rfl⟩;rw [<-hx] at wi |-;rw [<-hy] at wj |-;rw [<-hp] at ci wi;rw [<-hr] at cj wj;unfold ptrV at ci cj;have a0:=Zaa wi 0;have a1:=Zaa wi 1;have a2:=Zaa wi 2;have b0:=Zaa wj 0;have b1:=Zaa wj 1;have b2:=Zaa wj 2;simp [wayC] at a0 a1 a2 b0 b1 b2;have hBt:=hide (fun W=>Zcz (.slice ai li ci2) (.slice aj lj cj2) x y W);unfold wayC Zbp at hBt;have h1:(0:Int)<=(i:Int):=by omega
 have h2:(i:Int)<(n:Int):=by omega
 have h3:(0:Int)<=(j:Int):=by omega
 have h4:(j:Int)<(n:Int):=by omega
 have lp:=Zab wi;have lr:=Zab wj;clear h hx hy hp hr wi wj ei ej
 go_enter Tryz.func333,Tryz.ntmps333
 go_wp2
 go_region_held3 (fun V=>V.cell? (U g i)=some (.pointer (some (U p 0)))/\V.cell? (U g j)=some (.pointer (some (U r 0)))/\V.cell? (U p 0)=some (M x.to)/\V.cell? (U p 1)=some (M x.cost)/\V.cell? (U p 2)=some (.slice ai li ci2)/\V.cell? (U r 0)=some (M y.to)/\V.cell? (U r 1)=some (M y.cost)/\V.cell? (U r 2)=some (.slice aj lj cj2)) (first | (refine ⟨?_,?_,?_,?_,?_,?_,?_,?_⟩ <;> (refine Eq.trans (Below.cell (B:=W.heap.size) (w:=W.drew) hbb ?_) ?_ <;> assumption)) | go_keep) (first | (go_at_call 260;refine (hBt _).mono ?_;rintro e w2 ⟨rfl,hbb⟩))
 go_wp2;go_ret;exact⟨rfl,((YAC W.heap.size W).drew).trans hbb⟩
theorem Zjf (W:World)(a:Option Addr)(n cap:Nat):Calls Tryz.prog 262 #[.slice a n cap] W fun e W'=>e=.returned (M (n:Int))/\W=W':=by
 go_enter Tryz.func262,Tryz.ntmps262
 go_wp2;go_ret;exact⟨rfl,rfl⟩
theorem Zjq {g cap:Nat}{e:TypeId} (h:W.ownsRow lo e 1 (.slice (some (U g 0)) n cap) n (ptrs q n)) (hi:i<n) (k:Nat):(W.setCell (U g i) (ptrV k)).ownsRow lo e 1 (.slice (some (U g 0)) n cap) n (ptrs (fun x=>if x=i then k else q x) n):=by
 rcases h.2 with ⟨e1,_⟩ | ⟨g',cap',cur,hv,hg,hh,hnc,hcm,hcs,htk⟩
 ·cases e1
 ·cases hv;refine⟨by rw [ZgL];omega,.inr ⟨g,cap,cur.setIfInBounds i (ptrV k),rfl,hg,YAd W g i _ _ _ hh,hnc,hcm,by simpa using hcs,?_⟩⟩;have e2:(cur.setIfInBounds i (ptrV k)).toList=cur.toList.set i (ptrV k):=by simp
  rw [e2,List.take_set];have e3:cur.toList.take (n*1)=ptrs q n:=htk;rw [Nat.mul_one] at e3 |-;rw [e3];apply List.ext_getElem?;intro x;rw [List.getElem?_set];by_cases hx:x<n
  ·rw [Zfi hx];by_cases e4:i=x
   ·subst e4;rw [if_pos rfl,if_pos (by rw [ZgL];exact hi),Zfi hi,if_pos rfl]
   ·rw [if_neg e4,Zfi hx,if_neg (fun e=>e4 e.symm)]
  ·rw [List.getElem?_eq_none (by rw [ZgL];omega),if_neg (by omega),List.getElem?_eq_none (by rw [ZgL];omega)]
theorem ZfY (W:World)(lo n:Nat)(u:Value)(q:Nat->Nat)(i j:Nat)(h:W.ownsRow lo 272 1 u n (ptrs q n))(hi:i<n)(hj:j<n):
  Calls Tryz.prog 334 #[u,M (i:Int),M (j:Int)] W fun e W'=>e=.returned (.tuple #[])/\W'.ownsRow lo 272 1 u n (ptrs (Zcu q i j) n)/\W.grownBy W' u.ownBlock:=by
 rcases h.2 with ⟨_,e⟩ | ⟨g,cap,cur,hv,hg,hh,_⟩
 ·omega
 subst hv;have ci:=(World.ownsRow.cellAt h i (by omega)).trans (Zfi hi);have cj:=(World.ownsRow.cellAt h j (by omega)).trans (Zfi hj);have fz:=Zae hh;obtain⟨p,hp⟩:∃ p,p=q i:=⟨_,rfl⟩;obtain⟨r,hr⟩:∃ r,r=q j:=⟨_,rfl⟩;rw [<-hp] at ci;rw [<-hr] at cj;unfold ptrV at ci cj;have h1:(0:Int)<=(i:Int):=by omega
 have h2:(i:Int)<(n:Int):=by omega
 have h3:(0:Int)<=(j:Int):=by omega
 have h4:(j:Int)<(n:Int):=by omega
 obtain⟨y,hy⟩:∃ y,(W.setCell (U g i) (.pointer (some (U r 0)))).cell? (U g j)=some y:=by
  have o1:=Zjq h hi r;exact⟨_,(World.ownsRow.cellAt o1 j (by omega)).trans (Zfi hj)⟩
 have HP:=hide hp;have HR:=hide hr;have HH:=hide h;have HO:=hide (show ((W.setCell (U g i) (.pointer (some (U r 0)))).setCell (U g j) (.pointer (some (U p 0)))).ownsRow lo 272 1 (.slice (some (U g 0)) n cap) n (ptrs (Zcu q i j) n) by
  have o2:=Zjq (Zjq h hi r) hj p;have e:(fun x=>if x=j then p else if x=i then r else q x)=Zcu q i j:=by
   funext x;unfold Zcu;by_cases e1:x=j
   ·rw [if_pos e1];by_cases e2:x=i
    ·rw [if_pos e2,hp, <-e2,e1]
    ·rw [if_neg e2,if_pos e1,hp]
   ·rw [if_neg e1];by_cases e2:x=i
    ·rw [if_pos e2,if_pos e2,hr]
    ·rw [if_neg e2,if_neg e2,if_neg e1]
  rw [e] at o2;exact o2)
 have HG:=hide (show W.grownBy ((W.setCell (U g i) (.pointer (some (U r 0)))).setCell (U g j) (.pointer (some (U p 0)))) (some g) from Zaj (Zak W g _ _) (Zak _ g _ _));clear hh hp hr h
 go_enter Tryz.func334,Tryz.ntmps334
 go_wp2
 go_region
 go_wp2
 go_returns
 exact⟨rfl,HO.out.drew,⟨HG.out.os,HG.out.tape,HG.out.output,HG.out.size,HG.out.block⟩⟩
def ltW (xs:List WayD)(r:WayD)(t:Nat):Prop:=∃ x,xs[t]? = some x/\x.to<r.to
theorem ZrF {xs:List WayD}{r x:WayD}{t:Nat}(h:xs[t]? = some x):ltW xs r t↔x.to<r.to:=by
 constructor
 ·rintro ⟨y,hy,hl⟩;rw [h] at hy;cases hy;exact hl
 ·exact fun hl=>⟨x,h,hl⟩
theorem ZfQ (v1 v2:Value)(x y:WayD)(w:World):Calls Tryz.prog 244 #[.agg (wayC x v1),.agg (wayC y v2)] w fun e w'=>e=.returned (M (cmpN x.to y.to))/\T_ w w':=by
 unfold wayC
 go_enter Tryz.func244,Tryz.ntmps244
 go_wp2_with fail
 refine (Zbm _ _ _).mono ?_;rintro e w1 ⟨rfl,rfl⟩;go_wp2;go_ret;exact⟨rfl,Zap _ _⟩
theorem ZlQ (v:Value)(ps:List WP)(hi:Nat)(r:WP)(w:World)(hv:Zc9 w v ps hi)(hhi:hi<=w.heap.size)(hn:ps.length<=1048576)(hr:∃ a c,r.2=.slice a r.1.hops.length c)(hmono:∀ s t,s<=t->t<ps.length->ltW (Zag ps) r.1 t->ltW (Zag ps) r.1 s):
  Calls Tryz.prog 243 #[v,.agg (wayC r.1 r.2),.func (.func 244) #[] #[]] w fun e w'=>∃ (i:Nat) (f:Bool),e=.returned (.tuple #[M (i:Int),.bool f])/\i<=ps.length/\(∀ t,t<i->ltW (Zag ps) r.1 t)/\(∀ t,i<=t->t<ps.length->¬ltW (Zag ps) r.1 t)/\(f=true↔∃ x,(Zag ps)[i]? = some x/\x.to=r.1.to)/\T_ w w':=by
 obtain⟨a1,c1,rfl⟩:=hv.shape;obtain⟨ra,rc,hrn⟩:=hr;have HRN:=hide hrn;have HV:=hide hv;have HM:=hide hmono;unfold wayC;rw [hrn];clear hv hrn hmono;have BX:T_ w (w.alloc (.cells #[M r.1.to,M r.1.cost,.slice ra r.1.hops.length rc] 193)):=(YAC _ _).alloc (YA _) _;have hx:=YAE w (.cells #[M r.1.to,M r.1.cost,.slice ra r.1.hops.length rc] 193);obtain⟨w0,hw0⟩:∃ w0,w0=w.alloc (.cells #[M r.1.to,M r.1.cost,.slice ra r.1.hops.length rc] 193):=⟨_,rfl⟩;rw [<-hw0] at BX hx;have hs0:=Zab hx;have HX:=hide hx;clear hx
 go_enter Tryz.func243,Tryz.ntmps243
 go_wp2;rw [<-hw0];clear hw0
 go_loopw [9,10] (fun i j wr=>∃ (m n:Nat),m<=n/\n<=ps.length/\i=M m/\j=M n/\Hid (∀ t,t<m->ltW (Zag ps) r.1 t)/\Hid (∀ t,n<=t->t<ps.length->¬ltW (Zag ps) r.1 t)/\T_ w0 wr) (fun i j _=>(intOf j).toNat-(intOf i).toNat)
 case atStart=>exact ⟨0,ps.length,by omega,by omega,rfl,rfl,hide (by omega),hide (by omega),YAC _ _⟩
 case round=>
  obtain⟨m,n,hmn,hnp,rfl,rfl,HLO,HHI,hnx⟩:=hrel;have hsz:=hnx.size;have BWR:T_ w wr:=BX.trans (hnx.mono (by omega));by_cases hlt:m<n
  ·have hmi:(m:Int)<(n:Int):=by omega
   have hw1:IntKind.i64.wrap ((m:Int)+(n:Int))=(m:Int)+(n:Int):=ZaN _ (by omega) (by omega);go_wp2;obtain⟨k,hk⟩:∃ k:Nat,k=(m+n) / 2:=⟨_,rfl⟩;have hke:((m:Int)+(n:Int)) / 2=(k:Int):=by omega
   rw [hke];have hkm:m<=k:=by omega
   have hkn:k<n:=by omega
   have hki:(0:Int)<=(k:Int):=by omega
   have hkj:(k:Int)<(ps.length:Int):=by omega
   clear hk hke hw1;obtain⟨p,hp⟩:∃ p,ps[k]? = some p:=⟨ps[k],YAA (by omega)⟩;obtain⟨b,off,cap',hve,hbb,c0,c1,c2,hnr⟩:=HV.out.cells k p hp;cases hve;obtain⟨pa,pc,hpn⟩:=hnr.shape;rw [hpn] at c2;replace c0:=(BWR.cell (YAB hbb hhi)).trans c0;replace c1:=(BWR.cell (YAB hbb hhi)).trans c1;replace c2:=(BWR.cell (YAB hbb hhi)).trans c2;have hxx:=(hnx.block _ (Zab HX)).trans HX;have d0:=Zaa hxx 0;have d1:=Zaa hxx 1;have d2:=Zaa hxx 2;simp at d0 d1 d2;have hb1:b<wr.heap.size:=by omega
   have hb2:w.heap.size<wr.heap.size:=by omega
   have hq:=fun W=>ZfQ p.2 r.2 p.1 r.1 W;unfold wayC at hq;rw [hpn,HRN.out] at hq;obtain⟨x,hx⟩:∃ x,x=cmpN p.1.to r.1.to:=⟨_,rfl⟩;rw [<-hx] at hq;have HK:=hide hq;have HXV:=hide hx;have HPP:=hide (Zc2 hp);clear hq hx hp hxx hnr hpn;by_cases hx0:x<0
   ·have HLO2:=hide (show ∀ t,t<k+1->ltW (Zag ps) r.1 t from fun t ht=>HM t k (by omega) (by omega) ((ZrF HPP).2 (ZdX.1 (by rw [<-HXV.out];exact hx0))))
    go_region_held3 (fun W=>W.cell? (U b (off+k*3))=some (M p.1.to)/\W.cell? (U b (off+k*3+1))=some (M p.1.cost)/\W.cell? (U b (off+k*3+2))=some (.slice pa p.1.hops.length pc)/\W.cell? (U w.heap.size 0)=some (M r.1.to)/\W.cell? (U w.heap.size 1)=some (M r.1.cost)/\W.cell? (U w.heap.size 2)=some (.slice ra r.1.hops.length rc)) (first | go_keep | (refine ⟨?_,?_,?_,?_,?_,?_⟩ <;> (rw [hbc.cell (by assumption)];assumption))) (first | (go_at_call 244;refine (HK _).mono ?_;rintro e w1 ⟨rfl,hbc⟩))
    go_wp2;go_roundw
    case rel=>exact ⟨k+1,n,by omega,by omega,by go_num,rfl,HLO2,HHI,hnx.trans ((YAC _ _).drew.trans (hbc.mono hsz))⟩
    case measure=>exact MS_
   ·have HHI2:=hide (show ∀ t,k<=t->t<ps.length->¬ltW (Zag ps) r.1 t from fun t h1 h2 h3=>hx0 (by rw [HXV.out];exact ZdX.2 ((ZrF HPP).1 (HM k t h1 h2 h3))))
    go_region_held3 (fun W=>W.cell? (U b (off+k*3))=some (M p.1.to)/\W.cell? (U b (off+k*3+1))=some (M p.1.cost)/\W.cell? (U b (off+k*3+2))=some (.slice pa p.1.hops.length pc)/\W.cell? (U w.heap.size 0)=some (M r.1.to)/\W.cell? (U w.heap.size 1)=some (M r.1.cost)/\W.cell? (U w.heap.size 2)=some (.slice ra r.1.hops.length rc)) (first | go_keep | (refine ⟨?_,?_,?_,?_,?_,?_⟩ <;> (rw [hbc.cell (by assumption)];assumption))) (first | (go_at_call 244;refine (HK _).mono ?_;rintro e w1 ⟨rfl,hbc⟩))
    go_wp2;go_roundw
    case rel=>exact ⟨m,k,by omega,by omega,rfl,rfl,HLO,HHI2,hnx.trans ((YAC _ _).drew.trans (hbc.mono hsz))⟩
    case measure=>exact MS_
  ·have hmn2:m=n:=by omega
   subst hmn2;by_cases hend:m<ps.length
   ·have hmi:(0:Int)<=(m:Int):=by omega
    have hmj:(m:Int)<(ps.length:Int):=by omega
    obtain⟨p,hp⟩:∃ p,ps[m]? = some p:=⟨ps[m],YAA (by omega)⟩;obtain⟨b,off,cap',hve,hbb,c0,c1,c2,hnr⟩:=HV.out.cells m p hp;cases hve;obtain⟨pa,pc,hpn⟩:=hnr.shape;rw [hpn] at c2;replace c0:=(BWR.cell (YAB hbb hhi)).trans c0;replace c1:=(BWR.cell (YAB hbb hhi)).trans c1;replace c2:=(BWR.cell (YAB hbb hhi)).trans c2;have hxx:=(hnx.block _ (Zab HX)).trans HX;have d0:=Zaa hxx 0;have d1:=Zaa hxx 1;have d2:=Zaa hxx 2;simp at d0 d1 d2;have hb1:b<wr.heap.size:=by omega
    have hb2:w.heap.size<wr.heap.size:=by omega
    have hq:=fun W=>ZfQ p.2 r.2 p.1 r.1 W;unfold wayC at hq;rw [hpn,HRN.out] at hq;obtain⟨x,hx⟩:∃ x,x=cmpN p.1.to r.1.to:=⟨_,rfl⟩;rw [<-hx] at hq;have HK:=hide hq;have HXV:=hide hx;have HPP:=hide (Zc2 hp);clear hq hx hp hxx hnr hpn;have hfin:(x==0)=true↔∃ y,(Zag ps)[m]? = some y/\y.to=r.1.to:=by
     rw [HPP.out];constructor
     ·intro h;exact⟨p.1,rfl,Zbd.1 (by rw [<-HXV.out];simpa using h)⟩
     ·rintro ⟨y,hy,he⟩;cases hy;rw [HXV.out];simpa using Zbd.2 he
    have HFIN:=hide hfin;clear hfin;go_wp2
    go_region_held3 (fun W=>W.cell? (U b (off+m*3))=some (M p.1.to)/\W.cell? (U b (off+m*3+1))=some (M p.1.cost)/\W.cell? (U b (off+m*3+2))=some (.slice pa p.1.hops.length pc)/\W.cell? (U w.heap.size 0)=some (M r.1.to)/\W.cell? (U w.heap.size 1)=some (M r.1.cost)/\W.cell? (U w.heap.size 2)=some (.slice ra r.1.hops.length rc)) (first | go_keep | (refine ⟨?_,?_,?_,?_,?_,?_⟩ <;> (rw [hbc.cell (by assumption)];assumption))) (first | (go_at_call 244;refine (HK _).mono ?_;rintro e w1 ⟨rfl,hbc⟩))
    go_wp2
    go_returns
    exact⟨m,x==0,rfl,by omega,HLO,HHI,HFIN,BWR.trans ((YAC _ _).drew.trans (hbc.mono (show w.heap.size<=wr.heap.size by omega)))⟩
   ·have hme:¬(m:Int)<(ps.length:Int):=by omega
    have HNO:=hide (show (false=true↔∃ y,(Zag ps)[m]? = some y/\y.to=r.1.to) from ⟨(fun h=>by cases h),(fun ⟨y,hy,_⟩=>by rw [List.getElem?_eq_none (by simp [Zag];omega)] at hy;cases hy)⟩);go_wp2
    go_quiet (fail)
    go_wp2
    go_returns
    exact⟨m,false,rfl,by omega,HLO,HHI,HNO,BWR.trans ⟨rfl,rfl,rfl,YA _,fun _ _=>rfl⟩⟩
def Zge:Array Oper:=#[{ dst:=some 14,op:=Op.move (Operand.tmp 0),type:=187,pos := "l07_route.go:51",after:=#[],guard:=none }, { dst:=some 15,op:=Op.move (Operand.tmp 5),type:=3,pos := "l07_route.go:51",after:=#[],guard:=none }, { dst:=some 16,op:=Op.move (Operand.tmp 0),type:=187,pos := "l07_route.go:51",after:=#[],guard:=none }, { dst:=some 17,op:=Op.move (Operand.tmp 5),type:=3,pos := "l07_route.go:51",after:=#[],guard:=none }, { dst:=some 18,op:=Op.indexAddr 187 (Operand.tmp 16) (Operand.tmp 17),type:=0,pos := "l07_route.go:51",after:=#[{ on:=2,ground:=Ground.data }, { on:=3,ground:=Ground.data }],guard:=none }, { dst:=some 19,op:=Op.load 193 (Operand.tmp 18),type:=193,pos := "l07_route.go:51",after:=#[{ on:=4,ground:=Ground.data }],guard:=none }, { dst:=some 20,op:=Op.load 193 (Operand.tmp 3),type:=193,pos := "l07_route.go:51",after:=#[],guard:=none }, { dst:=some 21,op:=Op.call { callee:=Callee.value (Operand.func 245),args:=#[Operand.tmp 19,Operand.tmp 20],argTypes:=#[193,193] },type:=193,pos := "l07_route.go:51",after:=#[{ on:=5,ground:=Ground.data }, { on:=6,ground:=Ground.data }],guard:=none }, { dst:=some 22,op:=Op.indexAddr 187 (Operand.tmp 14) (Operand.tmp 15),type:=0,pos := "l07_route.go:51",after:=#[{ on:=0,ground:=Ground.data }, { on:=1,ground:=Ground.data }, { on:=0,ground:=Ground.phase }, { on:=1,ground:=Ground.phase }, { on:=2,ground:=Ground.phase }, { on:=3,ground:=Ground.phase }, { on:=4,ground:=Ground.phase }, { on:=5,ground:=Ground.phase }, { on:=6,ground:=Ground.phase }, { on:=7,ground:=Ground.phase }],guard:=none }, { dst:=none,op:=Op.store 193 (Operand.tmp 22) (Operand.tmp 21),type:=0,pos := "l07_route.go:51",after:=#[{ on:=8,ground:=Ground.data }, { on:=7,ground:=Ground.data }, { on:=7,ground:=Ground.chain }, { on:=0,ground:=Ground.phase }, { on:=1,ground:=Ground.phase }, { on:=2,ground:=Ground.phase }, { on:=3,ground:=Ground.phase }, { on:=4,ground:=Ground.phase }, { on:=5,ground:=Ground.phase }, { on:=6,ground:=Ground.phase }, { on:=7,ground:=Ground.phase }],guard:=none }]
theorem Zrb (t1 t2 t4 t6 t7 t8 t9 t10 t11 t12 t13 t14 t15 t16 t17 t18 t19 t20 t21 t22 t23 t24 t25 t26 t27 t28:Value)(W0:World)(g n cap i zb:Nat)(x y q:WayD)(xa ya:Option Addr)(xl xc yl yc:Nat)(RR:World->Value->Prop)(Q:Exit->Act->World->Prop)(ops:Array Oper)(hops:Hid (ops=Zge))(hpan:∀ c a1 a2 w,Q (.panic c) a1 w->Q (.panic c) a2 w)
  (hi0:(0:Int)<=(i:Int)) (hi:(i:Int)<(n:Int))
  (c0:W0.cell? (U g (i*3))=some (M x.to)) (c1:W0.cell? (U g (i*3+1))=some (M x.cost)) (c2:W0.cell? (U g (i*3+2))=some (.slice xa xl xc))
  (d0:W0.cell? (U zb 0)=some (M y.to)) (d1:W0.cell? (U zb 1)=some (M y.cost)) (d2:W0.cell? (U zb 2)=some (.slice ya yl yc))
  (HT:Hid (Calls Tryz.prog 245 #[.agg #[M x.to,M x.cost,.slice xa xl xc],.agg #[M y.to,M y.cost,.slice ya yl yc]] W0 fun e w'=>∃ ua ul uc,e=.returned (.agg #[M q.to,M q.cost,.slice ua ul uc])/\RR w' (.slice ua ul uc)))
  (hcell:∀ W u,RR W u->∃ y0 y1 y2,W.cell? (U g (i*3))=some y0/\W.cell? (U g (i*3+1))=some y1/\W.cell? (U g (i*3+2))=some y2)
  (hfz:∀ W u,RR W u->∀ j,W.frozen? (U g j)=false)
  (hend:∀ (W:World) ua ul uc,RR W (.slice ua ul uc)->Q .normal { tmps:=#[.slice (some (U g 0)) n cap,t1,t2,.pointer (some (U zb 0)),t4,M (i:Int),t6,t7,t8,t9,t10,t11,t12,t13,.slice (some (U g 0)) n cap,M (i:Int),.slice (some (U g 0)) n cap,M (i:Int),.pointer (some (U g (i*3))),.agg #[M x.to,M x.cost,.slice xa xl xc],.agg #[M y.to,M y.cost,.slice ya yl yc],.agg #[M q.to,M q.cost,.slice ua ul uc],.pointer (some (U g (i*3))),t23,t24,t25,t26,t27,t28],defers:=[] } (putW W g (i*3) (q,.slice ua ul uc))):
  wpAnyH Tryz.prog .any ops Q (fun _=>True) 10 (Array.replicate 10 false) { tmps:=#[.slice (some (U g 0)) n cap,t1,t2,.pointer (some (U zb 0)),t4,M (i:Int),t6,t7,t8,t9,t10,t11,t12,t13,t14,t15,t16,t17,t18,t19,t20,t21,t22,t23,t24,t25,t26,t27,t28],defers:=[] } W0:=by
 have h7:∀ W ua ul uc,RR W (.slice ua ul uc)->wpAnyH Tryz.prog .any ops Q (fun _=>True) 2 #[true,true,true,true,true,true,true,true,false,false] { tmps:=#[.slice (some (U g 0)) n cap,t1,t2,.pointer (some (U zb 0)),t4,M (i:Int),t6,t7,t8,t9,t10,t11,t12,t13,.slice (some (U g 0)) n cap,M (i:Int),.slice (some (U g 0)) n cap,M (i:Int),.pointer (some (U g (i*3))),.agg #[M x.to,M x.cost,.slice xa xl xc],.agg #[M y.to,M y.cost,.slice ya yl yc],.agg #[M q.to,M q.cost,.slice ua ul uc],t22,t23,t24,t25,t26,t27,t28],defers:=[] } W:=by
  intro W ua ul uc hr;obtain⟨y0,y1,y2,f0,f1,f2⟩:=hcell W _ hr;have fz:=hfz W _ hr;refine ZbA 8 ?_ ?_ ?_ (by rw [hops.out];kernel_rfl) ?_ ?_ trivial ?_
  rotate_left 2
  ·rw [hops.out];unfold Zge;simp only [getS];rfl
  ·intro W _;go_simp <;> with_reducible rfl
  ·exact fun c _ w h=>hpan c _ _ w h
  try simp only [putS]
  refine wpAnyH_ready (rs:=[9]) (by rw [hops.out];kernel_rfl) (by simp) ?_;refine AllReadyH.cons (o:=?_) ?_ (fun K hK=>?_) ?_
  rotate_left 1
  ·rw [hops.out];unfold Zge;simp only [getS];rfl
  ·rw [if_pos (by rfl)];go_simp;refine hK _ _ trivial (fun _=>?_);refine wpAnyH_done (by rw [hops.out];kernel_rfl) ?_ _;exact hend W ua ul uc hr
  exact AllReadyH.nil
 have h56:wpAnyH Tryz.prog .any ops Q (fun _=>True) 3 #[true,true,true,true,true,true,true,false,false,false] { tmps:=#[.slice (some (U g 0)) n cap,t1,t2,.pointer (some (U zb 0)),t4,M (i:Int),t6,t7,t8,t9,t10,t11,t12,t13,.slice (some (U g 0)) n cap,M (i:Int),.slice (some (U g 0)) n cap,M (i:Int),.pointer (some (U g (i*3))),.agg #[M x.to,M x.cost,.slice xa xl xc],.agg #[M y.to,M y.cost,.slice ya yl yc],t21,t22,t23,t24,t25,t26,t27,t28],defers:=[] } W0:=by
  refine wpAnyH_ready (rs:=[7]) (by rw [hops.out];kernel_rfl) (by simp) ?_;refine AllReadyH.cons (o:=?_) ?_ (fun K hK=>?_) ?_
  rotate_left 1
  ·rw [hops.out];unfold Zge;simp only [getS];rfl
  ·rw [if_pos (by rfl)];go_simp;refine HT.out.mono ?_;rintro e w2 ⟨ua,ul,uc,rfl,hr⟩;refine hK _ _ trivial (fun _=>?_);exact h7 w2 ua ul uc hr
  exact AllReadyH.nil
 have h5:wpAnyH Tryz.prog .any ops Q (fun _=>True) 4 #[true,true,true,true,true,true,false,false,false,false] { tmps:=#[.slice (some (U g 0)) n cap,t1,t2,.pointer (some (U zb 0)),t4,M (i:Int),t6,t7,t8,t9,t10,t11,t12,t13,.slice (some (U g 0)) n cap,M (i:Int),.slice (some (U g 0)) n cap,M (i:Int),.pointer (some (U g (i*3))),.agg #[M x.to,M x.cost,.slice xa xl xc],t20,t21,t22,t23,t24,t25,t26,t27,t28],defers:=[] } W0:=by
  refine wpAnyH_ready (rs:=[6]) (by rw [hops.out];kernel_rfl) (by simp) ?_;refine AllReadyH.cons (o:=?_) ?_ (fun K hK=>?_) ?_
  rotate_left 1
  ·rw [hops.out];unfold Zge;simp only [getS];rfl
  ·rw [if_pos (by rfl)];go_simp;refine hK _ _ trivial (fun _=>?_);exact h56
  exact AllReadyH.nil
 have h6:wpAnyH Tryz.prog .any ops Q (fun _=>True) 4 #[true,true,true,true,true,false,true,false,false,false] { tmps:=#[.slice (some (U g 0)) n cap,t1,t2,.pointer (some (U zb 0)),t4,M (i:Int),t6,t7,t8,t9,t10,t11,t12,t13,.slice (some (U g 0)) n cap,M (i:Int),.slice (some (U g 0)) n cap,M (i:Int),.pointer (some (U g (i*3))),t19,.agg #[M y.to,M y.cost,.slice ya yl yc],t21,t22,t23,t24,t25,t26,t27,t28],defers:=[] } W0:=by
  refine wpAnyH_ready (rs:=[5]) (by rw [hops.out];kernel_rfl) (by simp) ?_;refine AllReadyH.cons (o:=?_) ?_ (fun K hK=>?_) ?_
  rotate_left 1
  ·rw [hops.out];unfold Zge;simp only [getS];rfl
  ·rw [if_pos (by rfl)];go_simp;refine hK _ _ trivial (fun _=>?_);exact h56
  exact AllReadyH.nil
 show wpAnyH Tryz.prog .any ops Q (fun _=>True) 10 #[false,false,false,false,false,false,false,false,false,false] _ W0;refine ZbA 0 ?_ ?_ ?_ (by rw [hops.out];kernel_rfl) ?_ ?_ trivial ?_
 rotate_left 2
 ·rw [hops.out];unfold Zge;simp only [getS];rfl
 ·intro W _;go_simp <;> with_reducible rfl
 ·exact fun c _ w h=>hpan c _ _ w h
 try simp only [putS]
 refine ZbA 1 ?_ ?_ ?_ (by rw [hops.out];kernel_rfl) ?_ ?_ trivial ?_
 rotate_left 2
 ·rw [hops.out];unfold Zge;simp only [getS];rfl
 ·intro W _;go_simp <;> with_reducible rfl
 ·exact fun c _ w h=>hpan c _ _ w h
 try simp only [putS]
 refine ZbA 2 ?_ ?_ ?_ (by rw [hops.out];kernel_rfl) ?_ ?_ trivial ?_
 rotate_left 2
 ·rw [hops.out];unfold Zge;simp only [getS];rfl
 ·intro W _;go_simp <;> with_reducible rfl
 ·exact fun c _ w h=>hpan c _ _ w h
 try simp only [putS]
 refine ZbA 3 ?_ ?_ ?_ (by rw [hops.out];kernel_rfl) ?_ ?_ trivial ?_
 rotate_left 2
 ·rw [hops.out];unfold Zge;simp only [getS];rfl
 ·intro W _;go_simp <;> with_reducible rfl
 ·exact fun c _ w h=>hpan c _ _ w h
 try simp only [putS]
 refine ZbA 4 ?_ ?_ ?_ (by rw [hops.out];kernel_rfl) ?_ ?_ trivial ?_
 rotate_left 2
 ·rw [hops.out];unfold Zge;simp only [getS];rfl
 ·intro W _;go_simp <;> with_reducible rfl
 ·exact fun c _ w h=>hpan c _ _ w h
 try simp only [putS]
 refine wpAnyH_ready (rs:=[5,6]) (by rw [hops.out];kernel_rfl) (by simp) ?_;refine AllReadyH.cons (o:=?_) ?_ (fun K hK=>?_) ?_
 rotate_left 1
 ·rw [hops.out];unfold Zge;simp only [getS];rfl
 ·rw [if_pos (by rfl)];go_simp;refine hK _ _ trivial (fun _=>?_);exact h5
 refine AllReadyH.cons (o:=?_) ?_ (fun K hK=>?_) ?_
 rotate_left 1
 ·rw [hops.out];unfold Zge;simp only [getS];rfl
 ·rw [if_pos (by rfl)];go_simp;refine hK _ _ trivial (fun _=>?_);exact h6
 exact AllReadyH.nil
abbrev QP:=RtD × Value
def encQ (p:QP):List Value:=[.bool p.1.thing,M p.1.to,M p.1.kind,M p.1.cost,M p.1.far,p.2]
def ZbI:RtD:=⟨false,0,0,0,0,[]⟩
theorem ZbF (p:QP):(encQ p).length=6:=rfl
def Zd8 (W:World)(v:Value)(ps:List QP)(B:Nat):Prop:=ZaL encQ 6 W v ps B/\∀ p∈ps,ZaI W p.2 p.1.hops B
theorem Zd8.shape {ps:List QP}(h:Zd8 W v ps B):∃ a cap,v=.slice a ps.length cap:=by
 obtain⟨⟨a,cap,h,_⟩,_⟩:=h;exact⟨a,cap,h⟩
theorem Zd8.later {ps:List QP}{C:Nat}(h:Zd8 W v ps B)(hb:Below C W W')(hBC:B<=C):Zd8 W' v ps B:=
 ⟨Zaw.later h.1 hb hBC,fun p hp=>Zaw.later (h.2 p hp) hb hBC⟩
theorem Zd8.more {ps:List QP}{C:Nat}(h:Zd8 W v ps B)(hBC:B<=C):Zd8 W v ps C:=
 ⟨Zaw.more h.1 hBC,fun p hp=>Zaw.more (h.2 p hp) hBC⟩
theorem Zd8.then {ps:List QP}(h:Zd8 W v ps W.heap.size)(hb:T_ W W'):Zd8 W' v ps W'.heap.size:=(h.later hb (YA _)).more hb.size
def Zbu (W:World)(lo hi:Nat)(p:QP):Prop:=W.ownsRow lo 3 1 p.2 p.1.hops.length (flat intE p.1.hops)/\∀ k,p.2.ownBlock=some k->k<hi
def ZdB (p q:QP):Prop:=∀ k,p.2.ownBlock=some k->q.2.ownBlock≠some k
structure RtsOwn (W:World) (lo hi:Nat) (v:Value) (ps:List QP):Prop where
 row:W.ownsRow lo 54 6 v ps.length (flat encQ ps)
 top:∀ k,v.ownBlock=some k->k<hi
 nears:∀ p∈ps,Zbu W lo hi p
 apart:ps.Pairwise ZdB
theorem Zbu.keep {p:QP}(h:Zbu W lo hi p)(hk:∀ k,lo<=k->k<hi->k<W.heap.size->W'.heap[k]? = W.heap[k]?):Zbu W' lo hi p:=
 ⟨Zal h.1 (fun k e=>hk k (h.1.lt k e).1 (h.2 k e) (h.1.lt k e).2),h.2⟩
theorem Zbu.wide {lo':Nat}{p:QP}(h:Zbu W lo hi p)(hl:lo'<=lo)(hh:hi<=hi'):Zbu W lo' hi' p:=
 ⟨Zaf h.1 hl,fun k e=>YAB (h.2 k e) hh⟩
theorem Zbu.at {p:QP}(h:Zbu W lo hi p):ZaI W p.2 p.1.hops hi:=by
 have h1:=Zan h.1;obtain⟨a,cap,hv,h2⟩:=h1;refine⟨a,cap,hv,?_⟩;rcases h2 with h0 | ⟨b,off,ha,hb1,hx⟩
 ·exact .inl h0
 ·exact .inr ⟨b,off,ha,h.2 b (by rw [hv,ha];rfl),hx⟩
theorem RtsOwn.keep {ps:List QP}(h:RtsOwn W lo hi v ps)(hk:∀ k,lo<=k->k<hi->k<W.heap.size->W'.heap[k]? = W.heap[k]?):RtsOwn W' lo hi v ps where
 row:=Zal h.row (fun k e=>hk k (h.row.lt k e).1 (h.top k e) (h.row.lt k e).2)
 top:=h.top
 nears:=fun p hp=>(h.nears p hp).keep hk
 apart:=h.apart
theorem RtsOwn.below {ps:List QP}(h:RtsOwn W lo hi v ps)(hb:Below B W W')(hB:hi<=B):RtsOwn W' lo hi v ps:=h.keep (fun k _ h2 _=>hb.block k (by omega))
theorem RtsOwn.wide {lo':Nat}{ps:List QP}(h:RtsOwn W lo hi v ps)(hl:lo'<=lo)(hh:hi<=hi'):RtsOwn W lo' hi' v ps where
 row:=Zaf h.row hl
 top:=fun k e=>YAB (h.top k e) hh
 nears:=fun p hp=>(h.nears p hp).wide hl hh
 apart:=h.apart
theorem RtsOwn.at {ps:List QP}(h:RtsOwn W lo hi v ps):Zd8 W v ps hi:=by
 refine⟨?_,fun p hp=>(h.nears p hp).at⟩;have h1:=Zan h.row;obtain⟨a,cap,hv,h2⟩:=h1;refine⟨a,cap,hv,?_⟩;rcases h2 with h0 | ⟨b,off,ha,hb1,hx⟩
 ·exact .inl h0
 ·exact .inr ⟨b,off,ha,h.top b (by rw [hv,ha];rfl),hx⟩
theorem RtsOwn.frame {l2 h2:Nat}{ps:List QP}(h:RtsOwn W lo hi v ps)(hb:Frame l2 h2 W W')(hB:hi<=l2\/h2<=lo):RtsOwn W' lo hi v ps:=h.keep (fun k h1 h2 h3=>hb.block k h3 (by omega))
def totQ (ps:List QP):Nat:=(ps.map (fun p=>1+p.1.hops.length)).sum
theorem ZhN (p:QP)(ps:List QP):totQ (p::ps)=1+p.1.hops.length+totQ ps:=by simp [totQ]
theorem Zl1 (a b:List QP):totQ (a++b)=totQ a+totQ b:=by simp [totQ]
theorem ZjA (ps:List QP):ps.length<=totQ ps:=by
 induction ps with
 | nil=>simp [totQ]
 | cons p ps ih=>rw [ZhN,YAm];omega
theorem ZjB {ps:List QP}{p:QP}(h:p∈ps):p.1.hops.length<=totQ ps:=by
 induction ps with
 | nil=>simp at h
 | cons q ps ih=>
  rw [ZhN];rcases YAg.1 h with rfl | h1
  ·omega
  ·have:=ih h1;omega
theorem Zd8.cells {ps:List QP}(h:Zd8 W v ps B)(i:Nat)(p:QP)(hp:ps[i]? = some p):
  ∃ b off cap,v=.slice (some (U b off)) ps.length cap/\b<B/\W.cell? (U b (off+i*6))=some (.bool p.1.thing)/\W.cell? (U b (off+i*6+1))=some (M p.1.to)/\W.cell? (U b (off+i*6+2))=some (M p.1.kind)/\W.cell? (U b (off+i*6+3))=some (M p.1.cost)/\W.cell? (U b (off+i*6+4))=some (M p.1.far)/\W.cell? (U b (off+i*6+5))=some p.2/\ZaI W p.2 p.1.hops B:=by
 obtain⟨b,off,cap,hv,hb,hc⟩:=ZaL.cell h.1 ZbF i p hp;exact⟨b,off,cap,hv,hb,hc 0 _ rfl,hc 1 _ rfl,hc 2 _ rfl,hc 3 _ rfl,hc 4 _ rfl,hc 5 _ rfl,h.2 p (YAH hp)⟩
end Go.Proofs.YtcnjnibnecpddaaGreat
