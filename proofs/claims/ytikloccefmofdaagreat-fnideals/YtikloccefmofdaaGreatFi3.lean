/-
  Parts.
-/
import Derived.Test.YtikloccefmofdaaGreatFi2
namespace Go.Proofs.YtikloccefmofdaaGreat
open Go.RowKit
set_option linter.unusedSimpArgs false
set_option linter.unusedVariables false
set_option maxRecDepth 100000
set_option maxHeartbeats 8000000
variable {f r t:Int}{ls:List Lk}{k:Nat}
def mk (q:Int)(i:Nat):Nr:=⟨q+2*(i:Int),q+2*(i:Int)+1⟩
theorem Ze7 {w:World}{base size:Nat}{e:TypeId}{v:Value}{n:Nat}{xs:List Value}(h:w.ownsRow base e size v n xs)(hn:0<n):
  ∃ g cap,v=.slice (some ⟨g,0,none⟩) n cap/\base<=g/\g<w.heap.size:=by
 rcases h.2 with ⟨_,h0⟩ | ⟨g,cap,cur,hv,hb,hg,_⟩
 ·omega
 ·exact ⟨g,cap,hv,hb,Zab hg⟩
theorem Zbe {w:World}{base size g cap:Nat}{e:TypeId}{n:Nat}{xs:List Value}(h:w.ownsRow base e size (.slice (some ⟨g,0,none⟩) n cap) n xs)(j:Nat)(hj:j<n*size):∃ u,w.cell? ⟨g,j,none⟩=some u:=by
 rw [h.cellAt j hj];have hl:j<xs.length:=by rw [h.1];exact hj
 exact⟨_,YAA hl⟩
theorem Zcq (w:World)(r:Option Nat):w.grownBy w r:=⟨rfl,rfl,rfl,YA _,fun _ _ _=>rfl⟩
theorem ZgO {a b:Int}(h:a=b):Ending.returned (.int .i64 a)=.returned (.int .i64 b):=by rw [h]
def Zap (x y:RecD):Bool:=x.area==y.area&&x.kind==y.kind&&x.owner==y.owner&&x.key==y.key
def Zej (x y:RecD):Bool:=Zap x y&&x.cost==y.cost&&x.far==y.far&&decide (x.near=y.near)
theorem ZkB (v1 v2:Value)(x y:RecD)(w:World):Calls Tryz.prog 165 #[.agg (recC x v1),.agg (recC y v2)] w fun e w'=>e=.returned (.bool (Zap x y))/\Below w.heap.size w w':=by
 obtain⟨a0,a1,a2,a3,a4,ns,a6,a7⟩:=x;obtain⟨b0,b1,b2,b3,b4,ms,b6,b7⟩:=y;unfold recC;simp only []
 go_enter Tryz.func165,Tryz.ntmps165
 go_wp2
 all_goals go_ret
 all_goals refine ⟨Zah ?_,ZaB _ _⟩
 all_goals (simp only [Zap];grind)
theorem Zmt (w:World)(a b a' b':Int):(binOp .neq 62 (.agg #[.int .i64 a,.int .i64 b]) (.agg #[.int .i64 a',.int .i64 b'])).run Tryz.prog w=.ok (.bool (!decide ((⟨a,b⟩:Nr)=⟨a',b'⟩))) w:=by
 go_simp;by_cases h1:a=a' <;> by_cases h2:b=b' <;> simp [h1,h2]
def Zak (x y:RecD):Bool:=decide (x.area<y.area)||(x.area==y.area&&(decide (x.kind<y.kind)||(x.kind==y.kind&&(decide (x.owner<y.owner)||(x.owner==y.owner&&decide (x.key<y.key))))))
theorem Zfg (v1 v2:Value)(x y:RecD)(w:World):Calls Tryz.prog 37 #[.agg (recC x v1),.agg (recC y v2)] w fun e w'=>e=.returned (.bool (Zak x y))/\Below w.heap.size w w':=by
 obtain⟨a0,a1,a2,a3,a4,ns,a6,a7⟩:=x;obtain⟨b0,b1,b2,b3,b4,ms,b6,b7⟩:=y;unfold recC;simp only []
 go_enter Tryz.func37,Tryz.ntmps37
 go_wp2
 all_goals go_ret
 all_goals refine ⟨Zah ?_,ZaB _ _⟩
 all_goals (simp only [Zak];grind)

def ZeK (x:RecD)(v1:Value):Value:=
 if x.kind=1 then .tuple #[.iface 225 (.agg (recC x v1)),.bool true]
 else if x.kind=2 then .tuple #[.iface 226 (.agg (recC x v1)),.bool true]
 else if x.kind=3 then .tuple #[.iface 227 (.agg (recC x v1)),.bool true]
 else .tuple #[.nilIface,.bool false]
theorem Zqw (v1:Value)(x:RecD)(w:World):
  Calls Tryz.prog 159 #[.agg (recC x v1)] w fun e w'=>e=.returned (ZeK x v1)/\Below w.heap.size w w':=by
 have hV:ZeK x v1=ZeK x v1:=rfl;obtain⟨area,kind,owner,key,seq,ns,cost,far⟩:=x;by_cases hk1:kind=1
 ·subst hk1;have e:ZeK ⟨area,1,owner,key,seq,ns,cost,far⟩ v1=.tuple #[.iface 225 (.agg (recC ⟨area,1,owner,key,seq,ns,cost,far⟩ v1)),.bool true]:=rfl;rw [e];unfold recC;simp only [];clear e hV
  go_enter Tryz.func159,Tryz.ntmps159
  go_wp2;go_ret2;exact⟨rfl,(YAC _ _).alloc (YA _) _⟩
 have k1:(kind==1)=false:=by simpa using hk1
 by_cases hk2:kind=2
 ·subst hk2;have e:ZeK ⟨area,2,owner,key,seq,ns,cost,far⟩ v1=.tuple #[.iface 226 (.agg (recC ⟨area,2,owner,key,seq,ns,cost,far⟩ v1)),.bool true]:=rfl;rw [e];unfold recC;simp only [];clear e hV k1 hk1
  go_enter Tryz.func159,Tryz.ntmps159
  go_wp2;go_ret2;exact⟨rfl,(YAC _ _).alloc (YA _) _⟩
 have k2:(kind==2)=false:=by simpa using hk2
 by_cases hk3:kind=3
 ·subst hk3;have e:ZeK ⟨area,3,owner,key,seq,ns,cost,far⟩ v1=.tuple #[.iface 227 (.agg (recC ⟨area,3,owner,key,seq,ns,cost,far⟩ v1)),.bool true]:=rfl;rw [e];unfold recC;simp only [];clear e hV k1 hk1 k2 hk2
  go_enter Tryz.func159,Tryz.ntmps159
  go_wp2;go_ret2;exact⟨rfl,(YAC _ _).alloc (YA _) _⟩
 have k3:(kind==3)=false:=by simpa using hk3
 have e:ZeK ⟨area,kind,owner,key,seq,ns,cost,far⟩ v1=.tuple #[.nilIface,.bool false]:=by unfold ZeK;rw [if_neg hk1,if_neg hk2,if_neg hk3]
 rw [e];unfold recC;simp only [];clear e hV hk1 hk2 hk3
 go_enter Tryz.func159,Tryz.ntmps159
 go_wp2;go_ret2;exact⟨rfl,(YAC _ _).alloc (YA _) _⟩
theorem Zly (v1:Value)(x:RecD)(w:World):
  Calls Tryz.prog 223 #[.agg (recC x v1)] w fun e w'=>e=.returned (.bool (inB x.area 0 2&&x.key==0))/\Below w.heap.size w w':=by
 obtain⟨area,kind,owner,key,seq,ns,cost,far⟩:=x;unfold recC;simp only [];have H1:=hide (Za5 area 0 2);obtain⟨q1,hq1⟩:∃ q,q=inB area 0 2:=⟨_,rfl⟩;rw [<-hq1] at H1 |-;clear hq1
 go_enter Tryz.func223,Tryz.ntmps223
 go_wp2_with fail
 refine (H1.out _).mono ?_;rintro e w1 ⟨rfl,rfl⟩;cases q1
 ·go_wp2;go_ret;exact⟨by simp,(YAC _ _).alloc (YA _) _⟩
 ·go_wp2;go_ret;exact⟨by simp,(YAC _ _).alloc (YA _) _⟩
theorem ZiM (v1:Value)(x:RecD)(w:World):
  Calls Tryz.prog 224 #[.agg (recC x v1)] w fun e w'=>e=.returned (.bool (inB x.area 0 2&&inB x.key 1 6))/\Below w.heap.size w w':=by
 obtain⟨area,kind,owner,key,seq,ns,cost,far⟩:=x;unfold recC;simp only [];have H1:=hide (Za5 area 0 2);have H2:=hide (Za5 key 1 6);obtain⟨q1,hq1⟩:∃ q,q=inB area 0 2:=⟨_,rfl⟩;obtain⟨q2,hq2⟩:∃ q,q=inB key 1 6:=⟨_,rfl⟩;rw [<-hq1] at H1 |-;rw [<-hq2] at H2 |-;clear hq1 hq2
 go_enter Tryz.func224,Tryz.ntmps224
 go_wp2_with fail
 refine (H1.out _).mono ?_;rintro e w1 ⟨rfl,rfl⟩;cases q1
 ·go_wp2;go_ret;exact⟨by simp,(YAC _ _).alloc (YA _) _⟩
 ·go_wp2_with fail
  refine (H2.out _).mono ?_;rintro e w1 ⟨rfl,rfl⟩;go_wp2;go_ret;exact⟨by simp,(YAC _ _).alloc (YA _) _⟩
theorem ZkI (v1:Value)(x:RecD)(w:World):
  Calls Tryz.prog 225 #[.agg (recC x v1)] w fun e w'=>e=.returned (.bool (x.area==9&&inB x.key 1 9))/\Below w.heap.size w w':=by
 obtain⟨area,kind,owner,key,seq,ns,cost,far⟩:=x;unfold recC;simp only [];have H2:=hide (Za5 key 1 9);obtain⟨q2,hq2⟩:∃ q,q=inB key 1 9:=⟨_,rfl⟩;rw [<-hq2] at H2 |-;clear hq2;by_cases ha:area=9
 ·subst ha
  go_enter Tryz.func225,Tryz.ntmps225
  go_wp2_with fail
  refine (H2.out _).mono ?_;rintro e w1 ⟨rfl,rfl⟩;go_wp2;go_ret;exact⟨by simp,(YAC _ _).alloc (YA _) _⟩
 ·have hd:(area==9)=false:=by simpa using ha
  go_enter Tryz.func225,Tryz.ntmps225
  go_wp2;go_ret;exact⟨by simp [hd],(YAC _ _).alloc (YA _) _⟩
def Zcu (owner:Int)(l:Nr):Bool:=inB l.to 1 6 && !(l.to==owner)&&inB l.c 1 1000
def ordN (p l:Nr):Int:=p.to-l.to
def Zbn (owner:Int)(ns:List Nr):Bool:=ZbM (Zcu owner) ns&&ascB ordN ns
theorem Zpy (v1:Value)(x:RecD)(w:World)(hl:x.near.length<=1048576)(hv:Zat w v1 x.near w.heap.size):
  Calls Tryz.prog 70 #[.agg (recC x v1)] w fun e w'=>e=.returned (.bool (Zbn x.owner x.near))/\Below w.heap.size w w':=by
 obtain⟨a1,c1,rfl⟩:=hv.shape;have HV:=hide hv;clear hv;unfold recC
 go_enter Tryz.func70,Tryz.ntmps70
 go_wp2
 go_loopw [3] (fun i wr=>∃ k:Nat,k<=x.near.length/\i=.int .i64 k/\(∀ j,j<k->okAt (Zcu x.owner) x.near j=true)/\(∀ j,j<k->Zce ordN x.near j=true)/\Below w.heap.size w wr/\wr.heap[w.heap.size]? = some (.cells #[.int .i64 x.area,.int .i64 x.kind,.int .i64 x.owner,.int .i64 x.key,.int .i64 x.seq,.slice a1 x.near.length c1,.int .i64 x.cost,.bool x.far] 37)) (fun i _=>x.near.length-(intOf i).toNat)
 case atStart=>exact ⟨0,by omega,rfl,by omega,by omega,(YAC _ _).alloc (YA _) _,YAE w _⟩
 case round=>
  obtain⟨k,hk,rfl,hall,hasc,hnx,hx⟩:=hrel;have hxl:=Zab hx;have g5:=Zaa hx 5;simp at g5;have HALL:=hide hall;have HASC:=hide hasc;have HX:=hide hx;clear hall hasc hx;by_cases hlt:k<x.near.length
  ·obtain ⟨l,hl⟩:∃ l,x.near[k]? = some l:=⟨x.near[k],YAA hlt⟩;obtain⟨b,off,cap',hve,hbb,s0,s1⟩:=HV.out.cells k l hl;cases hve;replace s0:=(hnx.cell hbb).trans s0;replace s1:=(hnx.cell hbb).trans s1;have hzr:=hnx.size;have hbr:b<wr.heap.size:=by omega
   have hki:(0:Int)<=(k:Int):=by omega
   have hkj:(k:Int)<(x.near.length:Int):=by omega
   obtain⟨qt,hqt⟩:∃ q,q=inB l.to 1 6:=⟨_,rfl⟩;obtain⟨qc,hqc⟩:∃ q,q=inB l.c 1 1000:=⟨_,rfl⟩;have hok:Zcu x.owner l=(qt && !(l.to==x.owner)&&qc):=by unfold Zcu;rw [hqt,hqc]
   have HIT:=hide (ZbU l.to 1 6);have HIC:=hide (ZbU l.c 1 1000);rw [<-hqt] at HIT;rw [<-hqc] at HIC;have HAT1:=hide ((Zck (ok:=Zcu x.owner) hl).trans hok);have HL:=hide hl;clear hqt hqc hok hl;obtain⟨wq,hwq⟩:∃ wq:World,wq=wr.alloc (.cells #[.int .i64 l.to,.int .i64 l.c] 62):=⟨_,rfl⟩;have BW:Below w.heap.size w wq:=by rw [hwq];exact hnx.alloc hnx.size _
   have hb0:wq.heap[wr.heap.size]? = some (.cells #[.int .i64 l.to,.int .i64 l.c] 62):=by rw [hwq];exact YAE wr _
   have hx9:wq.heap[w.heap.size]? = some (.cells #[.int .i64 x.area,.int .i64 x.kind,.int .i64 x.owner,.int .i64 x.key,.int .i64 x.seq,.slice (some ⟨b,off,none⟩) x.near.length c1,.int .i64 x.cost,.bool x.far] 37):=by rw [hwq,YAH _ _ _ hxl];exact HX.out
   go_wp2;rw [<-hwq];have g2:=Zaa hx9 2;have g5:=Zaa hx9 5;have e0:=Zaa hb0 0;have e1:=Zaa hb0 1;simp at g2 g5 e0 e1;have HX9:=hide hx9;obtain⟨z,hz⟩:∃ z,z=wr.heap.size:=⟨_,rfl⟩;rw [<-hz] at e0 e1 |-;clear hb0 hx9 hwq hz s0 s1;cases qt
   ·have hf:Zbn x.owner x.near=false:=by unfold Zbn ZbM;rw [ZaQ hlt (HAT1.out.trans (by simp))];rfl
    have HF:=hide hf;clear hf;refine Zag (S:=(fun W=>W.cell? ⟨w.heap.size,2,none⟩=some (.int .i64 x.owner)/\W.cell? ⟨w.heap.size,5,none⟩=some (.slice (some ⟨b,off,none⟩) x.near.length c1)/\W.cell? ⟨z,0,none⟩=some (.int .i64 l.to)/\W.cell? ⟨z,1,none⟩=some (.int .i64 l.c))) (by kernel_rfl) 33 rfl ⟨g2,g5,e0,e1⟩ (fun ops hops hHeld=>?_)
    iterate 2 (refine TK 33 ?_;try simp only [putS])
    refine TC 2 ?_;intro K hK;go_simp;refine (HIT.out _).mono ?_;rintro e w1 ⟨rfl,rfl⟩;refine hK.out _ _ hHeld (fun _=>?_);clear hK K
    try simp only [putS]
    iterate 2 (refine TK 33 ?_;try simp only [putS])
    iterate 5 (refine TS 33 ?_;try simp only [putS])
    iterate 2 (refine TK 33 ?_;try simp only [putS])
    iterate 4 (refine TS 33 ?_;try simp only [putS])
    iterate 2 (refine TK 33 ?_;try simp only [putS])
    iterate 14 (refine TS 33 ?_;try simp only [putS])
    refine TK 33 ?_
    try simp only [putS]
    refine wpAnyH_done (by rw [hops.out];kernel_rfl) ?_ _;clear hops ops;go_wp2;go_ret;exact⟨Zah HF.out,BW.drew⟩
   by_cases how:l.to=x.owner
   ·have hoe:(l.to==x.owner)=true:=by simpa using how
    have hf:Zbn x.owner x.near=false:=by unfold Zbn ZbM;rw [ZaQ hlt (HAT1.out.trans (by simp [hoe]))];rfl
    have HF:=hide hf;clear hf how;refine Zag (S:=(fun W=>W.cell? ⟨w.heap.size,2,none⟩=some (.int .i64 x.owner)/\W.cell? ⟨w.heap.size,5,none⟩=some (.slice (some ⟨b,off,none⟩) x.near.length c1)/\W.cell? ⟨z,0,none⟩=some (.int .i64 l.to)/\W.cell? ⟨z,1,none⟩=some (.int .i64 l.c))) (by kernel_rfl) 33 rfl ⟨g2,g5,e0,e1⟩ (fun ops hops hHeld=>?_)
    iterate 2 (refine TK 33 ?_;try simp only [putS])
    refine TC 2 ?_;intro K hK;go_simp;refine (HIT.out _).mono ?_;rintro e w1 ⟨rfl,rfl⟩;refine hK.out _ _ hHeld (fun _=>?_);clear hK K
    try simp only [putS]
    iterate 6 (refine TK 33 ?_;try simp only [putS])
    refine TK 33 (v:=.bool true) ?_ (hy:=by intro W hW;(try dsimp only at hW);go_simp <;> (first | with_reducible rfl | (simp;omega) | omega))
    try simp only [putS]
    iterate 2 (refine TK 33 ?_;try simp only [putS])
    iterate 4 (refine TS 33 ?_;try simp only [putS])
    iterate 2 (refine TK 33 ?_;try simp only [putS])
    iterate 14 (refine TS 33 ?_;try simp only [putS])
    refine TK 33 ?_
    try simp only [putS]
    refine wpAnyH_done (by rw [hops.out];kernel_rfl) ?_ _;clear hops ops;go_wp2;go_ret;exact⟨Zah HF.out,BW.drew⟩
   have hoe:(l.to==x.owner)=false:=by simpa using how
   have HAT1:Hid (okAt (Zcu x.owner) x.near k=qc):=HAT1.out.trans (by simp [hoe]);clear how;cases qc
   ·have hf:Zbn x.owner x.near=false:=by unfold Zbn ZbM;rw [ZaQ hlt HAT1.out];rfl
    have HF:=hide hf;clear hf;refine Zag (S:=(fun W=>W.cell? ⟨w.heap.size,2,none⟩=some (.int .i64 x.owner)/\W.cell? ⟨w.heap.size,5,none⟩=some (.slice (some ⟨b,off,none⟩) x.near.length c1)/\W.cell? ⟨z,0,none⟩=some (.int .i64 l.to)/\W.cell? ⟨z,1,none⟩=some (.int .i64 l.c))) (by kernel_rfl) 33 rfl ⟨g2,g5,e0,e1⟩ (fun ops hops hHeld=>?_)
    iterate 2 (refine TK 33 ?_;try simp only [putS])
    refine TC 2 ?_;intro K hK;go_simp;refine (HIT.out _).mono ?_;rintro e w1 ⟨rfl,rfl⟩;refine hK.out _ _ hHeld (fun _=>?_);clear hK K
    try simp only [putS]
    iterate 6 (refine TK 33 ?_;try simp only [putS])
    refine TK 33 (v:=.bool false) ?_ (hy:=by intro W hW;(try dsimp only at hW);go_simp <;> (first | with_reducible rfl | (simp;omega) | omega))
    try simp only [putS]
    iterate 4 (refine TK 33 ?_;try simp only [putS])
    refine TC 14 ?_;intro K hK;go_simp;refine (HIC.out _).mono ?_;rintro e w1 ⟨rfl,rfl⟩;refine hK.out _ _ hHeld (fun _=>?_);clear hK K
    try simp only [putS]
    iterate 3 (refine TK 33 ?_;try simp only [putS])
    iterate 14 (refine TS 33 ?_;try simp only [putS])
    refine TK 33 ?_
    try simp only [putS]
    refine wpAnyH_done (by rw [hops.out];kernel_rfl) ?_ _;clear hops ops;go_wp2;go_ret;exact⟨Zah HF.out,BW.drew⟩
   by_cases hk0:k=0
   ·have hk1:¬(0:Int)<(k:Int):=by omega
    have hat2:Zce ordN x.near k=true:=by rw [hk0];rfl
    have HAT2:=hide hat2;clear hat2 hk0;refine Zag (S:=(fun W=>W.cell? ⟨w.heap.size,2,none⟩=some (.int .i64 x.owner)/\W.cell? ⟨w.heap.size,5,none⟩=some (.slice (some ⟨b,off,none⟩) x.near.length c1)/\W.cell? ⟨z,0,none⟩=some (.int .i64 l.to)/\W.cell? ⟨z,1,none⟩=some (.int .i64 l.c))) (by kernel_rfl) 33 rfl ⟨g2,g5,e0,e1⟩ (fun ops hops hHeld=>?_)
    iterate 2 (refine TK 33 ?_;try simp only [putS])
    refine TC 2 ?_;intro K hK;go_simp;refine (HIT.out _).mono ?_;rintro e w1 ⟨rfl,rfl⟩;refine hK.out _ _ hHeld (fun _=>?_);clear hK K
    try simp only [putS]
    iterate 6 (refine TK 33 ?_;try simp only [putS])
    refine TK 33 (v:=.bool false) ?_ (hy:=by intro W hW;(try dsimp only at hW);go_simp <;> (first | with_reducible rfl | (simp;omega) | omega))
    try simp only [putS]
    iterate 4 (refine TK 33 ?_;try simp only [putS])
    refine TC 14 ?_;intro K hK;go_simp;refine (HIC.out _).mono ?_;rintro e w1 ⟨rfl,rfl⟩;refine hK.out _ _ hHeld (fun _=>?_);clear hK K
    try simp only [putS]
    iterate 4 (refine TK 33 ?_;try simp only [putS])
    refine TK 33 (v:=.bool false) ?_ (hy:=by intro W hW;(try dsimp only at hW);go_simp <;> (first | with_reducible rfl | (simp;omega) | omega))
    try simp only [putS]
    refine TK 33 ?_
    try simp only [putS]
    iterate 10 (refine TS 33 ?_;try simp only [putS])
    iterate 2 (refine TK 33 ?_;try simp only [putS])
    refine wpAnyH_done (by rw [hops.out];kernel_rfl) ?_ _;clear hops ops;go_wp2;exact⟨⟨k+1,by omega,by go_num,ZaO HALL.out HAT1.out,ZaO HASC.out HAT2.out,BW.drew,HX9.out⟩,by simp [intOf];omega⟩
   ·obtain ⟨j,hj⟩:∃ j,k=j+1:=⟨k-1,by omega⟩;obtain⟨p,hp⟩:∃ p,x.near[j]? = some p:=⟨x.near[j],YAA (by omega)⟩;obtain⟨b',off',cap2,hve2,hbb2,t0,t1⟩:=HV.out.cells j p hp;cases hve2;replace t0:=(BW.cell hbb).trans t0;have hat2:Zce ordN x.near k=decide (p.to-l.to<0):=by rw [hj];exact ZbX hp (by rw [<-hj];exact HL.out)
    have HAT2:=hide hat2;have hj1:(k:Int)-1=(j:Int):=by omega
    have hj2:(0:Int)<=(j:Int):=by omega
    have hj3:(j:Int)<(x.near.length:Int):=by omega
    have hj4:(0:Int)<(k:Int):=by omega
    have hj5:IntKind.i64.wrap (j:Int)=(j:Int):=ZaH _ (by omega) (by omega);clear hp hat2 hj hk0 hbb2 t1;by_cases hpl:p.to<l.to
    ·have hd:decide (p.to-l.to<0)=true:=YAT (by omega);have HAT3:Hid (Zce ordN x.near k=true):=HAT2.out.trans hd;have hpl2:¬l.to<=p.to:=by omega
     clear hd HAT2;refine Zag (S:=(fun W=>W.cell? ⟨w.heap.size,2,none⟩=some (.int .i64 x.owner)/\W.cell? ⟨w.heap.size,5,none⟩=some (.slice (some ⟨b,off,none⟩) x.near.length c1)/\W.cell? ⟨z,0,none⟩=some (.int .i64 l.to)/\W.cell? ⟨z,1,none⟩=some (.int .i64 l.c)/\W.cell? ⟨b,off+j*2,none⟩=some (.int .i64 p.to))) (by kernel_rfl) 33 rfl ⟨g2,g5,e0,e1,t0⟩ (fun ops hops hHeld=>?_)
     iterate 2 (refine TK 33 ?_;try simp only [putS])
     refine TC 2 ?_;intro K hK;go_simp;refine (HIT.out _).mono ?_;rintro e w1 ⟨rfl,rfl⟩;refine hK.out _ _ hHeld (fun _=>?_);clear hK K
     try simp only [putS]
     iterate 6 (refine TK 33 ?_;try simp only [putS])
     refine TK 33 (v:=.bool false) ?_ (hy:=by intro W hW;(try dsimp only at hW);go_simp <;> (first | with_reducible rfl | (simp;omega) | omega))
     try simp only [putS]
     iterate 4 (refine TK 33 ?_;try simp only [putS])
     refine TC 14 ?_;intro K hK;go_simp;refine (HIC.out _).mono ?_;rintro e w1 ⟨rfl,rfl⟩;refine hK.out _ _ hHeld (fun _=>?_);clear hK K
     try simp only [putS]
     iterate 4 (refine TK 33 ?_;try simp only [putS])
     refine TK 33 (v:=.bool true) ?_ (hy:=by intro W hW;(try dsimp only at hW);go_simp <;> (first | with_reducible rfl | (simp;omega) | omega))
     try simp only [putS]
     iterate 13 (refine TK 33 ?_;try simp only [putS])
     refine wpAnyH_done (by rw [hops.out];kernel_rfl) ?_ _;clear hops ops;go_wp2;exact⟨⟨k+1,by omega,by go_num,ZaO HALL.out HAT1.out,ZaO HASC.out HAT3.out,BW.drew,HX9.out⟩,by simp [intOf];omega⟩
    ·have hd:decide (p.to-l.to<0)=false:=YAe (by omega);have hf:Zbn x.owner x.near=false:=by unfold Zbn ascB;rw [ZaQ hlt (HAT2.out.trans hd)];simp
     have HF:=hide hf;have hpl2:l.to<=p.to:=by omega
     clear hd hf HAT2;refine Zag (S:=(fun W=>W.cell? ⟨w.heap.size,2,none⟩=some (.int .i64 x.owner)/\W.cell? ⟨w.heap.size,5,none⟩=some (.slice (some ⟨b,off,none⟩) x.near.length c1)/\W.cell? ⟨z,0,none⟩=some (.int .i64 l.to)/\W.cell? ⟨z,1,none⟩=some (.int .i64 l.c)/\W.cell? ⟨b,off+j*2,none⟩=some (.int .i64 p.to))) (by kernel_rfl) 33 rfl ⟨g2,g5,e0,e1,t0⟩ (fun ops hops hHeld=>?_)
     iterate 2 (refine TK 33 ?_;try simp only [putS])
     refine TC 2 ?_;intro K hK;go_simp;refine (HIT.out _).mono ?_;rintro e w1 ⟨rfl,rfl⟩;refine hK.out _ _ hHeld (fun _=>?_);clear hK K
     try simp only [putS]
     iterate 6 (refine TK 33 ?_;try simp only [putS])
     refine TK 33 (v:=.bool false) ?_ (hy:=by intro W hW;(try dsimp only at hW);go_simp <;> (first | with_reducible rfl | (simp;omega) | omega))
     try simp only [putS]
     iterate 4 (refine TK 33 ?_;try simp only [putS])
     refine TC 14 ?_;intro K hK;go_simp;refine (HIC.out _).mono ?_;rintro e w1 ⟨rfl,rfl⟩;refine hK.out _ _ hHeld (fun _=>?_);clear hK K
     try simp only [putS]
     iterate 4 (refine TK 33 ?_;try simp only [putS])
     refine TK 33 (v:=.bool true) ?_ (hy:=by intro W hW;(try dsimp only at hW);go_simp <;> (first | with_reducible rfl | (simp;omega) | omega))
     try simp only [putS]
     iterate 13 (refine TK 33 ?_;try simp only [putS])
     refine wpAnyH_done (by rw [hops.out];kernel_rfl) ?_ _;clear hops ops;go_wp2;go_ret;exact⟨Zah HF.out,BW.drew⟩
  ·have hfin:Zbn x.owner x.near=true:=by
    have e1:ZbM (Zcu x.owner) x.near=true:=Za4 fun i hi=>HALL.out i (by omega);have e2:ascB ordN x.near=true:=Za4 fun i hi=>HASC.out i (by omega);unfold Zbn;rw [e1,e2];rfl
   have HFIN:=hide hfin;clear hfin;go_wp2;go_ret;exact⟨Zah HFIN.out,hnx⟩
def Zbr (x y:WayD):Bool:=decide (x.cost<y.cost)
theorem Zhx (u1 u2:Value)(x y:WayD)(w:World):Calls Tryz.prog 149 #[.agg (wayC x u1),.agg (wayC y u2)] w fun e w'=>e=.returned (.bool (Zbr x y))/\Below w.heap.size w w':=by
 unfold wayC Zbr
 go_enter Tryz.func149,Tryz.ntmps149
 go_wp2;go_ret;exact⟨rfl,ZaB _ _⟩
theorem Zcs (u1 u2:Value)(x y:WayD)(w:World):Calls Tryz.prog 139 #[.agg (wayC x u1),.agg (wayC y u2)] w fun e w'=>e=.returned (.bool (Zbr x y))/\Below w.heap.size w w':=by
 unfold wayC Zbr
 go_enter Tryz.func139,Tryz.ntmps139
 go_wp2;go_ret;exact⟨rfl,ZaB _ _⟩
def ZbD (f t r:Int)(l:Lk):Bool:=l.r==r&&((l.a==f&&l.b==t)||(l.a==t&&l.b==f))
def ZcH (ls:List Lk)(f t r:Int):Int:=((ls.find? (ZbD f t r)).map (·.c)).getD 0
theorem Zf9 {α:Type}(p:α->Bool):∀ (ls:List α) (k:Nat) (l:α),(∀ j,j<k->∀ x,ls[j]? = some x->p x=false)->ls[k]? = some l->p l=true->ls.find? p=some l
 | [],_,_,_,h,_=>by simp at h
 | y::ys,0,l,_,h,hp=>by simp at h;subst h;simp [hp]
 | y::ys,k+1,l,hno,h,hp=>by
  have h0:=hno 0 (by omega) y rfl;rw [List.find?_cons,h0];exact Zf9 p ys k l (fun j hj x hx=>hno (j+1) (by omega) x (by simpa using hx)) (by simpa using h) hp
theorem Zh1 {α:Type}(p:α->Bool)(ls:List α)(h:∀ j,j<ls.length->∀ x,ls[j]? = some x->p x=false):ls.find? p=none:=by
 rw [List.find?_eq_none];intro x hx;obtain⟨i,hi,e⟩:=List.mem_iff_getElem.1 hx;rw [h i hi x (by rw [YAA hi,e])];decide
theorem Zlx {α:Type}{p:α->Bool}{ls:List α}{l:α}(h:∀ j,j<k->∀ x,ls[j]? = some x->p x=false)(hl:ls[k]? = some l)(hp:p l=false):∀ j,j<k+1->∀ x,ls[j]? = some x->p x=false:=by
 intro j hj x hx;by_cases e:j=k
 ·subst e;rw [hl] at hx;cases hx;exact hp
 ·exact h j (by omega) x hx
theorem ZiV {l:Lk}(h:∀ j,j<k->∀ x,ls[j]? = some x->ZbD f t r x=false)(hl:ls[k]? = some l)(hp:ZbD f t r l=true):ZcH ls f t r=l.c:=by
 unfold ZcH;rw [Zf9 _ ls k l h hl hp];rfl
theorem Zg5 {l:Lk}(h:∀ j,j<k->∀ x,ls[j]? = some x->ZbD f t r x=false)(hl:ls[k]? = some l)(hp:ZbD f t r l=false):∀ j,j<k+1->∀ x,ls[j]? = some x->ZbD f t r x=false:=Zlx h hl hp
theorem Zj4 (h:∀ j,j<k->∀ x,ls[j]? = some x->ZbD f t r x=false)(hk:k=ls.length):ZcH ls f t r=0:=by
 unfold ZcH;rw [Zh1 _ ls (by rw [<-hk];exact h)];rfl
theorem Zpv (n:Value)(v tv:Value)(ls:List Lk)(f t r:Int)(w:World)(hls:ls.length<=1048576)(hv:ZaK w v ls w.heap.size):
  Calls Tryz.prog 87 #[.agg #[n,v,tv],.int .i64 f,.int .i64 t,.int .i64 r] w fun e w'=>e=.returned (.int .i64 (ZcH ls f t r))/\Below w.heap.size w w':=by
 obtain⟨a,cap,rfl⟩:∃ a cap,v=.slice a ls.length cap:=by obtain ⟨a,cap,h,_⟩:=hv;exact⟨a,cap,h⟩
 have HV:=hide hv;clear hv
 go_enter Tryz.func87,Tryz.ntmps87
 go_wp2
 go_loopw [9] (fun i wr=>∃ k:Nat,k<=ls.length/\i=.int .i64 k/\(∀ j,j<k->∀ l,ls[j]? = some l->ZbD f t r l=false)/\Below w.heap.size w wr/\wr.heap[w.heap.size]? = some (.cells #[n,.slice a ls.length cap,tv] 27)) (fun i _=>ls.length-(intOf i).toNat)
 case atStart=>exact ⟨0,by omega,rfl,by omega,(YAC _ _).alloc (YA _) _,YAE w _⟩
 case round=>
  obtain⟨k,hk,rfl,hno,hb,hx⟩:=hrel;have hx1:wr.cell? ⟨w.heap.size,1,none⟩=some (.slice a ls.length cap):=by rw [Zaa hx];rfl
  have HX:=hide hx;have HNO:=hide hno;clear hx hno;by_cases hlt:k<ls.length
  ·obtain ⟨l,hl⟩:∃ l,ls[k]? = some l:=⟨ls[k],YAA hlt⟩;obtain⟨b,off,cap',hve,hbb,c0,c1,c2,c3⟩:=HV.out.cells k l hl;cases hve;replace c0:=(hb.cell hbb).trans c0;replace c1:=(hb.cell hbb).trans c1;replace c2:=(hb.cell hbb).trans c2;replace c3:=(hb.cell hbb).trans c3;have HL:=hide hl;clear hl;obtain⟨la,lb,lc,lr⟩:=l;go_wp2
   all_goals first
    | (go_ret
       refine⟨Zff (ZiV HNO.out HL.out ?_).symm,hb.alloc hb.size _⟩;clear HV HX HL HNO hb hx1 c0 c1 c2 c3;simp only [ZbD];grind)
    | (refine ⟨⟨k+1,by omega,by go_num,Zg5 HNO.out HL.out ?_,hb.alloc hb.size _,?_⟩,by simp [intOf];omega⟩
       ·clear HV HX HL HNO hb hx1 c0 c1 c2 c3;simp only [ZbD];grind
       ·rw [YAH _ _ _ (Zab HX.out)];exact HX.out)
    | (subst_vars
       refine⟨⟨k+1,by omega,by go_num,Zg5 HNO.out HL.out ?_,hb.alloc hb.size _,?_⟩,by simp [intOf];omega⟩
       ·clear HV HX HL HNO hb hx1 c0 c1 c2 c3;simp only [ZbD];grind
       ·rw [YAH _ _ _ (Zab HX.out)];exact HX.out)
  ·have hk':k=ls.length:=by omega
   have HK:=hide hk';clear hk';go_wp2;go_ret;exact⟨Zff (Zj4 HNO.out HK.out).symm,hb⟩
def orN:List Int->Int
 | []=>0
 | x::xs=>if x=0 then orN xs else x
theorem Zjl :∀ (k:Nat)(l:List Int),(∀ j,j<k->l.getD j 0=0)->orN l=orN (l.drop k)
 | 0,l,_=>by simp
 | k+1,[],_=>by simp
 | k+1,x::xs,h=>by
  have h0:x=0:=by simpa using h 0 (by omega)
  subst h0;have e:orN (0::xs)=orN xs:=by simp [orN]
  rw [e,List.drop_succ_cons];exact Zjl k xs (fun j hj=>by simpa using h (j+1) (by omega))
theorem orN_at {l:List Int}(h:∀ j,j<k->l.getD j 0=0)(hk:k<l.length)(hx:l.getD k 0≠0):orN l=l.getD k 0:=by
 rw [Zjl k l h,YAl hk];have e:l.getD k 0=l[k]:=by simp [YAA hk]
 rw [e] at hx |-;simp only [orN];rw [if_neg hx]
theorem ZqN {l:List Int}(h:∀ j,j<k->l.getD j 0=0)(hk:k=l.length):orN l=0:=by
 rw [Zjl k l h,List.drop_of_length_le (by omega)];rfl
theorem ZrB (b n:Nat)(l:List Int)(w:World)(hn:n=l.length)(hs:l.length<=1000)(hc:∀ j,j<l.length->w.cell? ⟨b,j,none⟩=some (.int .i64 (l.getD j 0))):
  Calls Tryz.prog 104 #[.slice (some ⟨b,0,none⟩) n n] w fun e w'=>e=.returned (.int .i64 (orN l))/\w=w':=by
 subst hn;have HC:=hide hc;clear hc
 go_enter Tryz.func104,Tryz.ntmps104
 go_wp2
 go_loopw [8] (fun i wr=>∃ k:Nat,k<=l.length/\i=.int .i64 k/\(∀ j,j<k->l.getD j 0=0)/\w=wr) (fun i _=>l.length-(intOf i).toNat)
 case atStart=>exact ⟨0,by omega,rfl,by omega,rfl⟩
 case round=>
  obtain⟨k,hk,rfl,hno,rfl⟩:=hrel;have HNO:=hide hno;clear hno;by_cases hlt:k<l.length
  ·have hcell:=HC.out k hlt;by_cases h0:l.getD k 0=0
   ·have hnx:∀ j,j<k+1->l.getD j 0=0:=fun j hj=>by
     by_cases e:j=k
     ·subst e;exact h0
     ·exact HNO.out j (by omega)
    rw [h0] at hcell;have HN:=hide hnx;clear h0 hnx;go_wp2;go_roundw
    case rel=>exact ⟨k+1,by omega,by go_num,HN.out,trivial⟩
    case measure=>simp [intOf];omega
   ·obtain ⟨y,hy⟩:∃ y,y=l.getD k 0:=⟨_,rfl⟩;rw [<-hy] at hcell h0;have hor:orN l=y:=by rw [hy];exact orN_at HNO.out hlt (by rw [<-hy];exact h0)
    have HO:=hide hor;clear hy hor;go_wp2;go_ret;exact⟨Zkx HO.out,rfl⟩
  ·have hk':k=l.length:=by omega
   have HK:=hide hk';clear hk';go_wp2;go_ret;exact⟨Zkx (ZqN HNO.out HK.out),rfl⟩
theorem ZqO (b:Nat)(x y z:Int)(w:World)(h0:w.cell? ⟨b,0,none⟩=some (.int .i64 x))(h1:w.cell? ⟨b,1,none⟩=some (.int .i64 y))(h2:w.cell? ⟨b,2,none⟩=some (.int .i64 z)):
  Calls Tryz.prog 104 #[.slice (some ⟨b,0,none⟩) 3 3] w fun e w'=>e=.returned (.int .i64 (orN [x,y,z]))/\w=w':=
 ZrB b 3 [x,y,z] w rfl (by simp) (fun j hj=>by
  match j,hj with
  | 0,_=>exact h0
  | 1,_=>exact h1
  | 2,_=>exact h2
  | j+3,hj=>exact absurd hj (by simp only [YAk,List.length_nil];omega))
theorem Zmz (b:Nat)(x y:Int)(w:World)(h0:w.cell? ⟨b,0,none⟩=some (.int .i64 x))(h1:w.cell? ⟨b,1,none⟩=some (.int .i64 y)):
  Calls Tryz.prog 104 #[.slice (some ⟨b,0,none⟩) 2 2] w fun e w'=>e=.returned (.int .i64 (orN [x,y]))/\w=w':=
 ZrB b 2 [x,y] w rfl (by simp) (fun j hj=>by
  match j,hj with
  | 0,_=>exact h0
  | 1,_=>exact h1
  | j+2,hj=>exact absurd hj (by simp only [YAk,List.length_nil];omega))
theorem ZdS (w1:World)(cs:Array Value)(t:TypeId)(j:Nat)(v:Value)(h:cs[j]? = some v):(w1.alloc (.cells cs t)).drew.cell? ⟨w1.heap.size,j,none⟩=some v:=by
 have:=Zaa (YAE w1 (.cells cs t)) j;rw [h] at this;exact this
def ordL (l m:Lk):Int:=orN [cmpN l.a m.a,cmpN l.b m.b,cmpN l.r m.r]
def ordT (l m:Th):Int:=orN [cmpN l.k m.k,cmpN l.o m.o]
theorem ZqP (l m:Lk)(w:World):Calls Tryz.prog 74 #[lkV l,lkV m] w fun e w'=>e=.returned (.int .i64 (ordL l m))/\Below w.heap.size w w':=by
 obtain⟨a,b,c,r⟩:=l;obtain⟨a',b',c',r'⟩:=m;unfold lkV ordL;simp only []
 go_enter Tryz.func74,Tryz.ntmps74
 go_wp2;obtain⟨w1,hw1⟩:∃ w1,w1=(w.alloc (.cells #[.int .i64 a,.int .i64 b,.int .i64 c,.int .i64 r] 78)).alloc (.cells #[.int .i64 a',.int .i64 b',.int .i64 c',.int .i64 r'] 78):=⟨_,rfl⟩;have B1:Below w.heap.size w w1:=by rw [hw1];exact ZaB _ _
 have p0:w1.heap[w.heap.size]? = some (.cells #[.int .i64 a,.int .i64 b,.int .i64 c,.int .i64 r] 78):=by rw [hw1,YAH _ _ _ (by simp),YAE]
 have q0:w1.heap[w.heap.size+1]? = some (.cells #[.int .i64 a',.int .i64 b',.int .i64 c',.int .i64 r'] 78):=by
  rw [hw1];have:=YAE (w.alloc (.cells #[.int .i64 a,.int .i64 b,.int .i64 c,.int .i64 r] 78)) (.cells #[.int .i64 a',.int .i64 b',.int .i64 c',.int .i64 r'] 78);simpa using this
 rw [<-hw1];clear hw1;have s0:=Zaa p0 0;have s1:=Zaa p0 1;have s3:=Zaa p0 3;have t0:=Zaa q0 0;have t1:=Zaa q0 1;have t3:=Zaa q0 3;have hz0:=Zab p0;have hz1:=Zab q0;simp at s0 s1 s3 t0 t1 t3;clear p0 q0;have hz2:=B1.size
 go_region_held3 (fun W=>W.cell? ⟨w.heap.size,0,none⟩=some (.int .i64 a)/\W.cell? ⟨w.heap.size,1,none⟩=some (.int .i64 b)/\W.cell? ⟨w.heap.size,3,none⟩=some (.int .i64 r)/\W.cell? ⟨w.heap.size+1,0,none⟩=some (.int .i64 a')/\W.cell? ⟨w.heap.size+1,1,none⟩=some (.int .i64 b')/\W.cell? ⟨w.heap.size+1,3,none⟩=some (.int .i64 r')) (first | go_keep | assumption) (first | (go_at_call 105;refine (Zbi _ _ _).mono ?_;rintro e w' ⟨rfl,rfl⟩) | (go_at_call 104;refine (ZqO _ (cmpN a a') (cmpN b b') (cmpN r r') _ ?_ ?_ ?_).mono ?_;(exact ZdS _ _ _ _ _ rfl);(exact ZdS _ _ _ _ _ rfl);(exact ZdS _ _ _ _ _ rfl);rintro e w' ⟨rfl,rfl⟩))
 go_wp2;go_ret;exact⟨rfl,B1.drew.alloc B1.size _⟩
theorem ZqQ (l m:Th)(w:World):Calls Tryz.prog 76 #[thV l,thV m] w fun e w'=>e=.returned (.int .i64 (ordT l m))/\Below w.heap.size w w':=by
 obtain⟨o,k,c,f⟩:=l;obtain⟨o',k',c',f'⟩:=m;unfold thV ordT;simp only []
 go_enter Tryz.func76,Tryz.ntmps76
 go_wp2;obtain⟨w1,hw1⟩:∃ w1,w1=(w.alloc (.cells #[.int .i64 o,.int .i64 k,.int .i64 c,.bool f] 65)).alloc (.cells #[.int .i64 o',.int .i64 k',.int .i64 c',.bool f'] 65):=⟨_,rfl⟩;have B1:Below w.heap.size w w1:=by rw [hw1];exact ZaB _ _
 have p0:w1.heap[w.heap.size]? = some (.cells #[.int .i64 o,.int .i64 k,.int .i64 c,.bool f] 65):=by rw [hw1,YAH _ _ _ (by simp),YAE]
 have q0:w1.heap[w.heap.size+1]? = some (.cells #[.int .i64 o',.int .i64 k',.int .i64 c',.bool f'] 65):=by
  rw [hw1];have:=YAE (w.alloc (.cells #[.int .i64 o,.int .i64 k,.int .i64 c,.bool f] 65)) (.cells #[.int .i64 o',.int .i64 k',.int .i64 c',.bool f'] 65);simpa using this
 rw [<-hw1];clear hw1;have s0:=Zaa p0 0;have s1:=Zaa p0 1;have t0:=Zaa q0 0;have t1:=Zaa q0 1;have hz0:=Zab p0;have hz1:=Zab q0;simp at s0 s1 t0 t1;clear p0 q0;have hz2:=B1.size
 go_region_held3 (fun W=>W.cell? ⟨w.heap.size,0,none⟩=some (.int .i64 o)/\W.cell? ⟨w.heap.size,1,none⟩=some (.int .i64 k)/\W.cell? ⟨w.heap.size+1,0,none⟩=some (.int .i64 o')/\W.cell? ⟨w.heap.size+1,1,none⟩=some (.int .i64 k')) (first | go_keep | assumption) (first | (go_at_call 105;refine (Zbi _ _ _).mono ?_;rintro e w' ⟨rfl,rfl⟩) | (go_at_call 104;refine (Zmz _ (cmpN k k') (cmpN o o') _ ?_ ?_).mono ?_;(exact ZdS _ _ _ _ _ rfl);(exact ZdS _ _ _ _ _ rfl);rintro e w' ⟨rfl,rfl⟩))
 go_wp2;go_ret;exact⟨rfl,B1.drew.alloc B1.size _⟩
structure RtD where
 thing:Bool
 to:Int
 kind:Int
 cost:Int
 far:Int
 hops:List Int
 deriving DecidableEq
def rtC (x:RtD)(v:Value):Array Value:=#[.bool x.thing,.int .i64 x.to,.int .i64 x.kind,.int .i64 x.cost,.int .i64 x.far,v]
def RtAt (W:World)(v:Value)(x:RtD)(B:Nat):Prop:=∃ v1,v=.agg (rtC x v1)/\ZaI W v1 x.hops B
theorem RtAt.then {W W':World}{v:Value}{x:RtD}(h:RtAt W v x W.heap.size)(hb:Below W.heap.size W W'):RtAt W' v x W'.heap.size:=by
 obtain⟨v1,hv,h1⟩:=h;exact⟨v1,hv,h1.then hb⟩
end Go.Proofs.YtikloccefmofdaaGreat
