/-
  IKind INear IBodyOk IRecOk StoreI
-/
import Derived.Test.YtgdgkgmjpnbbcaaGreatOn1
import Derived.Test.YtgdgkgmjpnbbcaaGreatOn2
import Derived.Test.YtgdgkgmjpnbbcaaGreatOn4
import Derived.Test.YtgdgkgmjpnbbcaaGreatOn3
namespace Go.Proofs.YtgdgkgmjpnbbcaaGreat
open Go.RowKit
set_option linter.unusedSimpArgs false
set_option linter.unusedVariables false
set_option maxRecDepth 100000
set_option maxHeartbeats 8000000
def Zek (x:RecD)(v1:Value):Value:=
 if x.kind=1 then .tuple #[.iface 176 (.agg (recC x v1)),.bool true]
 else if x.kind=2 then .tuple #[.iface 177 (.agg (recC x v1)),.bool true]
 else if x.kind=3 then .tuple #[.iface 178 (.agg (recC x v1)),.bool true]
 else .tuple #[.nilIface,.bool false]
theorem ZnN (v1:Value)(x:RecD)(w:World):
  Calls Tryz.prog 110 #[.agg (recC x v1)] w fun e w'=>e=.returned (Zek x v1)/\Below w.heap.size w w':=by
 have hV:Zek x v1=Zek x v1:=rfl;obtain⟨area,kind,owner,key,seq,ns,cost,far⟩:=x;by_cases hk1:kind=1
 ·subst hk1
  have e:Zek ⟨area,1,owner,key,seq,ns,cost,far⟩ v1=.tuple #[.iface 176 (.agg (recC ⟨area,1,owner,key,seq,ns,cost,far⟩ v1)),.bool true]:=rfl;rw [e];unfold recC;simp only []
  clear e hV
  go_enter Tryz.func110,Tryz.ntmps110
  go_wp2
  go_ret2
  exact⟨rfl,(Below.refl _ _).alloc (Nat.le_refl _) _⟩
 have k1:(kind==1)=false:=by simpa using hk1
 by_cases hk2:kind=2
 ·subst hk2
  have e:Zek ⟨area,2,owner,key,seq,ns,cost,far⟩ v1=.tuple #[.iface 177 (.agg (recC ⟨area,2,owner,key,seq,ns,cost,far⟩ v1)),.bool true]:=rfl;rw [e];unfold recC;simp only []
  clear e hV k1 hk1
  go_enter Tryz.func110,Tryz.ntmps110
  go_wp2
  go_ret2
  exact⟨rfl,(Below.refl _ _).alloc (Nat.le_refl _) _⟩
 have k2:(kind==2)=false:=by simpa using hk2
 by_cases hk3:kind=3
 ·subst hk3
  have e:Zek ⟨area,3,owner,key,seq,ns,cost,far⟩ v1=.tuple #[.iface 178 (.agg (recC ⟨area,3,owner,key,seq,ns,cost,far⟩ v1)),.bool true]:=rfl;rw [e];unfold recC;simp only []
  clear e hV k1 hk1 k2 hk2
  go_enter Tryz.func110,Tryz.ntmps110
  go_wp2
  go_ret2
  exact⟨rfl,(Below.refl _ _).alloc (Nat.le_refl _) _⟩
 have k3:(kind==3)=false:=by simpa using hk3
 have e:Zek ⟨area,kind,owner,key,seq,ns,cost,far⟩ v1=.tuple #[.nilIface,.bool false]:=by unfold Zek;rw [if_neg hk1,if_neg hk2,if_neg hk3]
 rw [e];unfold recC;simp only []
 clear e hV hk1 hk2 hk3
 go_enter Tryz.func110,Tryz.ntmps110
 go_wp2
 go_ret2
 exact⟨rfl,(Below.refl _ _).alloc (Nat.le_refl _) _⟩
theorem ZjW (v1:Value)(x:RecD)(w:World):
  Calls Tryz.prog 182 #[.agg (recC x v1)] w fun e w'=>e=.returned (.bool (inB x.area 0 2&&x.key==0))/\Below w.heap.size w w':=by
 obtain⟨area,kind,owner,key,seq,ns,cost,far⟩:=x;unfold recC;simp only []
 have H1:=hide (Zcb area 0 2);obtain⟨q1,hq1⟩:∃ q,q=inB area 0 2:=⟨_,rfl⟩;rw [<-hq1] at H1 |-;clear hq1
 go_enter Tryz.func182,Tryz.ntmps182
 go_wp2_with fail
 refine (H1.out _).mono ?_
 rintro e w1 ⟨rfl,rfl⟩;cases q1
 ·go_wp2
  go_ret
  exact⟨by simp,(Below.refl _ _).alloc (Nat.le_refl _) _⟩
 ·go_wp2
  go_ret
  exact⟨by simp,(Below.refl _ _).alloc (Nat.le_refl _) _⟩
theorem ZhM (v1:Value)(x:RecD)(w:World):
  Calls Tryz.prog 183 #[.agg (recC x v1)] w fun e w'=>e=.returned (.bool (inB x.area 0 2&&inB x.key 1 6))/\Below w.heap.size w w':=by
 obtain⟨area,kind,owner,key,seq,ns,cost,far⟩:=x;unfold recC;simp only []
 have H1:=hide (Zcb area 0 2);have H2:=hide (Zcb key 1 6);obtain⟨q1,hq1⟩:∃ q,q=inB area 0 2:=⟨_,rfl⟩;obtain⟨q2,hq2⟩:∃ q,q=inB key 1 6:=⟨_,rfl⟩;rw [<-hq1] at H1 |-;rw [<-hq2] at H2 |-;clear hq1 hq2
 go_enter Tryz.func183,Tryz.ntmps183
 go_wp2_with fail
 refine (H1.out _).mono ?_
 rintro e w1 ⟨rfl,rfl⟩;cases q1
 ·go_wp2
  go_ret
  exact⟨by simp,(Below.refl _ _).alloc (Nat.le_refl _) _⟩
 ·go_wp2_with fail
  refine (H2.out _).mono ?_
  rintro e w1 ⟨rfl,rfl⟩
  go_wp2
  go_ret
  exact⟨by simp,(Below.refl _ _).alloc (Nat.le_refl _) _⟩
theorem Zji (v1:Value)(x:RecD)(w:World):
  Calls Tryz.prog 184 #[.agg (recC x v1)] w fun e w'=>e=.returned (.bool (x.area==9&&inB x.key 1 9))/\Below w.heap.size w w':=by
 obtain⟨area,kind,owner,key,seq,ns,cost,far⟩:=x;unfold recC;simp only []
 have H2:=hide (Zcb key 1 9);obtain⟨q2,hq2⟩:∃ q,q=inB key 1 9:=⟨_,rfl⟩;rw [<-hq2] at H2 |-;clear hq2;by_cases ha:area=9
 ·subst ha
  go_enter Tryz.func184,Tryz.ntmps184
  go_wp2_with fail
  refine (H2.out _).mono ?_
  rintro e w1 ⟨rfl,rfl⟩
  go_wp2
  go_ret
  exact⟨by simp,(Below.refl _ _).alloc (Nat.le_refl _) _⟩
 ·have hd:(area==9)=false:=by simpa using ha
  go_enter Tryz.func184,Tryz.ntmps184
  go_wp2
  go_ret
  exact⟨by simp [hd],(Below.refl _ _).alloc (Nat.le_refl _) _⟩
def Zfq (p l:Nr):Int:=cmpN p.to l.to
theorem ZoQ (ls:List Nr):ascB Zfq ls=ascB ordN ls:=by
 unfold ascB
 congr 1
 funext k
 cases k with
 | zero=>rfl
 | succ k=>
  simp only [ZcF]
  split
  ·rename_i p l _ _
   have h:(Zfq p l<0)↔(ordN p l<0):=by
    unfold Zfq ordN;rw [ZdA];omega
   exact decide_eq_decide.2 h
  ·rfl
theorem Zic (l m:Nr)(w:World):Calls Tryz.prog 141 #[nrV l,nrV m] w fun e w'=>e=.returned (.int .i64 (Zfq l m))/\Below w.heap.size w w':=by
 obtain⟨a,b⟩:=l;obtain⟨a',b'⟩:=m;unfold nrV Zfq;simp only []
 have H:=hide (Zbt a a')
 go_enter Tryz.func141,Tryz.ntmps141
 go_wp2_with fail
 refine (H.out _).mono ?_
 rintro e w1 ⟨rfl,rfl⟩
 go_wp2
 go_ret
 exact⟨rfl,Za6 _ _⟩
theorem Zju (v:Value)(ls:List Nr)(w:World)(hls:ls.length<=1048576)(hv:ZaB w v ls w.heap.size):
  Calls Tryz.prog 140 #[v,.func (.func 141) #[] #[]] w fun e w'=>e=.returned (.bool (ascB Zfq ls))/\Below w.heap.size w w':=by
 obtain⟨a,cap,rfl⟩:=hv.shape;have HV:=hide hv;clear hv
 go_enter Tryz.func140,Tryz.ntmps140
 go_wp2
 go_loopw [5] (fun i wr=>∃ k:Nat,1<=k/\(k<=ls.length\/k=1)/\i=.int .i64 k/\(∀ j,j<k->ZcF Zfq ls j=true)/\Below w.heap.size w wr) (fun i _=>ls.length+1-(intOf i).toNat)
 case atStart=>exact ⟨1,by omega,by omega,rfl,fun j hj=>by (obtain rfl:j=0:=by omega);rfl,Below.refl _ _⟩
 case round=>
  obtain⟨k,hk1,hk,rfl,hno,hb⟩:=hrel;have HNO:=hide hno;clear hno;by_cases hlt:k<ls.length
  ·obtain ⟨l,hl⟩:∃ l,ls[k]? = some l:=⟨ls[k],List.getElem?_eq_getElem hlt⟩
   obtain⟨j,hj⟩:∃ j,k=j+1:=⟨k-1,by omega⟩
   obtain⟨p,hp⟩:∃ p,ls[j]? = some p:=⟨ls[j],List.getElem?_eq_getElem (by omega)⟩
   obtain⟨b,off,cap',hve,hbb,c0,c1⟩:=HV.out.cells k l hl;cases hve
   obtain⟨b',off',cap2,hve2,hbb2,d0,d1⟩:=HV.out.cells j p hp;cases hve2
   rw [<-hb.cell (p:=⟨b,off+k*2,none⟩) hbb] at c0;rw [<-hb.cell (p:=⟨b,off+k*2+1,none⟩) hbb] at c1;rw [<-hb.cell (p:=⟨b,off+j*2,none⟩) hbb] at d0;rw [<-hb.cell (p:=⟨b,off+j*2+1,none⟩) hbb] at d1;have hat:ZcF Zfq ls k=decide (Zfq p l<0):=by rw [hj];exact ZbF hp (by rw [<-hj];exact hl)
   have hzr:=hb.size;have hbr:b<wr.heap.size:=by omega
   have hki:(0:Int)<=(k:Int):=by omega
   have hkj:(k:Int)<(ls.length:Int):=by omega
   have hj1:(k:Int)-1=(j:Int):=by omega
   have hj2:(0:Int)<=(j:Int):=by omega
   have hj3:(j:Int)<(ls.length:Int):=by omega
   have hj5:IntKind.i64.wrap (j:Int)=(j:Int):=ZaO _ (by omega) (by omega)
   have HORD:=hide (Zic p l);have HAT:=hide hat;have HJ:=hide hj;clear hl hp hat hj;obtain⟨x,hx⟩:∃ x,x=Zfq p l:=⟨_,rfl⟩;rw [<-hx] at HORD HAT;clear hx;unfold nrV at HORD;by_cases hx0:x<0
   ·have hx1:¬(0:Int)<=x:=by omega
    rw [decide_eq_true hx0] at HAT
    go_wp2
    go_region_held3 (fun W=>W.cell? ⟨b,off+k*2,none⟩=some (.int .i64 l.to)/\W.cell? ⟨b,off+k*2+1,none⟩=some (.int .i64 l.c)/\W.cell? ⟨b,off+j*2,none⟩=some (.int .i64 p.to)/\W.cell? ⟨b,off+j*2+1,none⟩=some (.int .i64 p.c)) (first | go_keep | (refine ⟨?_,?_,?_,?_⟩ <;> (rw [hbc.cell (by assumption)];assumption))) (first | (go_at_call 141;refine (HORD.out _).mono ?_;rintro e w2 ⟨rfl,hbc⟩))
    go_wp2
    exact⟨⟨k+1,by omega,by omega,by go_num,ZaZ HNO.out HAT.out,hb.drew.trans (hbc.mono hb.size)⟩,by simp [intOf];omega⟩
   ·have hx1:(0:Int)<=x:=by omega
    rw [decide_eq_false hx0] at HAT;have hf:ascB Zfq ls=false:=Zbe hlt HAT.out;have HF:=hide hf;clear hf
    go_wp2
    go_region_held3 (fun W=>W.cell? ⟨b,off+k*2,none⟩=some (.int .i64 l.to)/\W.cell? ⟨b,off+k*2+1,none⟩=some (.int .i64 l.c)/\W.cell? ⟨b,off+j*2,none⟩=some (.int .i64 p.to)/\W.cell? ⟨b,off+j*2+1,none⟩=some (.int .i64 p.c)) (first | go_keep | (refine ⟨?_,?_,?_,?_⟩ <;> (rw [hbc.cell (by assumption)];assumption))) (first | (go_at_call 141;refine (HORD.out _).mono ?_;rintro e w2 ⟨rfl,hbc⟩))
    go_wp2
    go_ret
    exact⟨Zam HF.out,hb.drew.trans (hbc.mono hb.size)⟩
  ·have hall:ascB Zfq ls=true:=Zbf fun i hi=>HNO.out i (by omega)
   have HA:=hide hall;clear hall
   go_wp2
   go_ret
   exact⟨Zam HA.out,hb⟩
theorem Zmi (o:Int)(v:Value)(ls:List Nr)(w:World)(hls:ls.length<=1048576)(hv:ZaB w v ls w.heap.size):
  Calls Tryz.prog 126 #[.int .i64 o,v] w fun e w'=>e=.returned (.bool (Zbj o ls))/\Below w.heap.size w w':=by
 obtain⟨a,cap,rfl⟩:=hv.shape;have HV:=hide hv;clear hv
 go_enter Tryz.func126,Tryz.ntmps126
 go_wp2
 go_loopw [9] (fun i wr=>∃ k:Nat,k<=ls.length/\i=.int .i64 k/\(∀ j,j<k->okAt (Zcm o) ls j=true)/\Below w.heap.size w wr) (fun i _=>ls.length-(intOf i).toNat)
 case atStart=>exact ⟨0,by omega,rfl,by omega,Below.refl _ _⟩
 case round=>
  obtain⟨k,hk,rfl,hno,hb⟩:=hrel;have HNO:=hide hno;clear hno;by_cases hlt:k<ls.length
  ·obtain ⟨l,hl⟩:∃ l,ls[k]? = some l:=⟨ls[k],List.getElem?_eq_getElem hlt⟩
   obtain⟨b,off,cap',hve,hbb,c0,c1⟩:=HV.out.cells k l hl;cases hve
   rw [<-hb.cell (p:=⟨b,off+k*2,none⟩) hbb] at c0;rw [<-hb.cell (p:=⟨b,off+k*2+1,none⟩) hbb] at c1;have hki:(0:Int)<=(k:Int):=by omega
   have hkj:(k:Int)<(ls.length:Int):=by omega
   have HAT:=hide (Zcz (ok:=Zcm o) hl);obtain⟨lt,lc⟩:=l;simp only [Zcm] at HAT c0 c1
   obtain⟨q1,hq1⟩:∃ q,q=inB lt 1 6:=⟨_,rfl⟩;obtain⟨q3,hq3⟩:∃ q,q=inB lc 1 1000:=⟨_,rfl⟩;have H1:=hide (Zcb lt 1 6);have H3:=hide (Zcb lc 1 1000);rw [<-hq1] at H1 HAT;rw [<-hq3] at H3 HAT;clear hl hq1 hq3;have hzr:=hb.size;have B2:Below w.heap.size w (wr.alloc (.cells #[.int .i64 lt,.int .i64 lc] 62)):=hb.alloc hb.size _
   go_wp2_with fail
   refine (H1.out _).mono ?_
   rintro e w2 ⟨rfl,rfl⟩;cases q1
   ·have hf:Zbj o ls=false:=by unfold Zbj Zce;rw [Zbe hlt HAT.out];rfl
    have HF:=hide hf;clear hf
    go_wp2
    go_ret
    exact⟨Zam HF.out,B2⟩
   by_cases hlo:lt=o
   ·have hd:(lt==o)=true:=by simpa using hlo
    have hf:Zbj o ls=false:=by
     have:=HAT.out;rw [hd] at this;unfold Zbj Zce;rw [Zbe hlt this];rfl
    have HF:=hide hf;clear hf hlo HAT
    go_wp2
    go_ret
    exact⟨Zam HF.out,B2⟩
   have hd:(lt==o)=false:=by simpa using hlo
   rw [hd] at HAT;clear hlo
   go_wp2_with fail
   refine (H3.out _).mono ?_
   rintro e w2 ⟨rfl,rfl⟩;cases q3
   ·have hf:Zbj o ls=false:=by unfold Zbj Zce;rw [Zbe hlt HAT.out];rfl
    have HF:=hide hf;clear hf
    go_wp2
    go_ret
    exact⟨Zam HF.out,B2⟩
   ·go_wp2
    exact⟨⟨k+1,by omega,by go_num,ZaZ HNO.out HAT.out,B2⟩,by simp [intOf];omega⟩
  ·have hall:Zce (Zcm o) ls=true:=Zbf fun i hi=>HNO.out i (by omega)
   have hF:Zbj o ls=ascB Zfq ls:=by unfold Zbj;rw [hall,ZoQ];rfl
   have HF:=hide hF;clear hF hall;have HVR:=hide (HV.out.then hb)
   go_wp2_with fail
   refine (Zju _ ls _ hls HVR.out).mono ?_
   rintro e w2 ⟨rfl,hbc⟩
   go_wp2
   go_ret
   exact⟨Zam HF.out,hb.trans (hbc.mono hb.size)⟩
def nilC:Array Value:=#[.int .i64 0,.int .i64 0,.int .i64 0,.int .i64 0,.int .i64 0,.slice none 0 0,.int .i64 0,.bool false]
theorem as1_1 (v:Value)(w:World):(Instr.typeAssert (.iface 176 v) 157 176 true).run Tryz.prog w=.ok (.tuple #[v,.bool true]) w:=by kernel_rfl
theorem as2_1 (v:Value)(w:World):(Instr.typeAssert (.iface 177 v) 157 176 true).run Tryz.prog w=.ok (.tuple #[.agg nilC,.bool false]) w:=by kernel_rfl
theorem as2_2 (v:Value)(w:World):(Instr.typeAssert (.iface 177 v) 157 177 true).run Tryz.prog w=.ok (.tuple #[v,.bool true]) w:=by kernel_rfl
theorem as3_1 (v:Value)(w:World):(Instr.typeAssert (.iface 178 v) 157 176 true).run Tryz.prog w=.ok (.tuple #[.agg nilC,.bool false]) w:=by kernel_rfl
theorem as3_2 (v:Value)(w:World):(Instr.typeAssert (.iface 178 v) 157 177 true).run Tryz.prog w=.ok (.tuple #[.agg nilC,.bool false]) w:=by kernel_rfl
theorem as3_3 (v:Value)(w:World):(Instr.typeAssert (.iface 178 v) 157 178 true).run Tryz.prog w=.ok (.tuple #[v,.bool true]) w:=by kernel_rfl
theorem ZiA (v1:Value)(x:RecD)(w:World)(hl:x.near.length<=1048576)(hv:ZaB w v1 x.near w.heap.size):
  Calls Tryz.prog 111 #[.iface 176 (.agg (recC x v1))] w fun e w'=>e=.returned (.bool (Zbj x.owner x.near&&x.cost==0 && !x.far))/\Below w.heap.size w w':=by
 obtain⟨p1,c1,rfl⟩:=hv.shape;have HN:=hide (fun W (h:Below w.heap.size w W)=>Zmi x.owner (.slice p1 x.near.length c1) x.near W hl (hv.then h))
 obtain⟨qn,hqn⟩:∃ q,q=Zbj x.owner x.near:=⟨_,rfl⟩;rw [<-hqn] at HN |-;clear hqn hv;obtain⟨area,kind,owner,key,seq,ns,cost,far⟩:=x;unfold recC;simp only [] at HN hl |-
 have a1:=as1_1;have B0:Below w.heap.size w (w.alloc (.cells #[.int .i64 area,.int .i64 kind,.int .i64 owner,.int .i64 key,.int .i64 seq,.slice p1 ns.length c1,.int .i64 cost,.bool far] 176)):=(Below.refl _ _).alloc (Nat.le_refl _) _;have NEW:=hide (heap_alloc_new w (.cells #[.int .i64 area,.int .i64 kind,.int .i64 owner,.int .i64 key,.int .i64 seq,.slice p1 ns.length c1,.int .i64 cost,.bool far] 176))
 go_enter Tryz.func111,Tryz.ntmps111
 go_wp2_with fail
 refine (HN.out _ B0).mono ?_
 rintro e w1 ⟨rfl,b1⟩;have hx1:w1.heap[w.heap.size]? = some (.cells #[.int .i64 area,.int .i64 kind,.int .i64 owner,.int .i64 key,.int .i64 seq,.slice p1 ns.length c1,.int .i64 cost,.bool far] 176):=by rw [b1.block _ (by simp)];exact NEW.out
 have f6:=Zaa hx1 6;have f7:=Zaa hx1 7;simp at f6 f7
 have B1:=B0.trans (b1.mono B0.size);clear hx1 b1 NEW HN;cases qn
 ·go_wp2
  go_ret
  exact⟨by simp,B1⟩
 by_cases hc:cost=0
 case neg=>
  have hd:(cost==0)=false:=by simpa using hc
  go_wp2
  go_ret
  exact⟨by simp [hd],B1⟩
 subst hc;cases far
 all_goals
  go_wp2
  go_ret
  exact⟨by simp,B1⟩
theorem ZgZ (v1:Value)(x:RecD)(w:World)(hl:x.near.length<=1048576)(hv:ZaB w v1 x.near w.heap.size):
  Calls Tryz.prog 111 #[.iface 177 (.agg (recC x v1))] w fun e w'=>e=.returned (.bool (x.near.length==0&&inB x.cost 0 60000 && !x.far))/\Below w.heap.size w w':=by
 obtain⟨p1,c1,rfl⟩:=hv.shape;clear hv;have H5:=hide (Zcb x.cost 0 60000);obtain⟨q5,hq5⟩:∃ q,q=inB x.cost 0 60000:=⟨_,rfl⟩;rw [<-hq5] at H5 |-;clear hq5;obtain⟨area,kind,owner,key,seq,ns,cost,far⟩:=x;unfold recC;simp only [] at H5 hl |-
 have a1:=as2_1;have a2:=as2_2;have B0:Below w.heap.size w (w.alloc (.cells #[.int .i64 area,.int .i64 kind,.int .i64 owner,.int .i64 key,.int .i64 seq,.slice p1 ns.length c1,.int .i64 cost,.bool far] 177)):=(Below.refl _ _).alloc (Nat.le_refl _) _;by_cases hn0:ns.length=0
 case neg=>
  have hd:((ns.length:Int)==0)=false:=by simp;intro h;rw [h] at hn0;exact hn0 rfl
  have hd2:(ns.length==0)=false:=by simpa using hn0
  rw [hd2];clear hn0 hd2
  go_enter Tryz.func111,Tryz.ntmps111
  go_wp2
  go_ret
  exact⟨by simp,B0⟩
 have hd:((ns.length:Int)==0)=true:=by simp;exact List.length_eq_zero_iff.1 hn0
 have hd2:(ns.length==0)=true:=by simpa using hn0
 rw [hd2];clear hn0 hd2
 go_enter Tryz.func111,Tryz.ntmps111
 go_wp2_with fail
 refine (H5.out _).mono ?_
 rintro e w1 ⟨rfl,rfl⟩;cases q5
 ·go_wp2
  go_ret
  exact⟨by simp,B0⟩
 cases far
 all_goals
  go_wp2
  go_ret
  exact⟨by simp,B0⟩
theorem ZhN (v1:Value)(x:RecD)(w:World)(hl:x.near.length<=1048576)(hv:ZaB w v1 x.near w.heap.size):
  Calls Tryz.prog 111 #[.iface 178 (.agg (recC x v1))] w fun e w'=>e=.returned (.bool (x.near.length==0&&(inB x.cost 1 1000||x.cost==60000)))/\Below w.heap.size w w':=by
 obtain⟨p1,c1,rfl⟩:=hv.shape;clear hv;have H5:=hide (Zcb x.cost 1 1000);obtain⟨q5,hq5⟩:∃ q,q=inB x.cost 1 1000:=⟨_,rfl⟩;rw [<-hq5] at H5 |-;clear hq5;obtain⟨area,kind,owner,key,seq,ns,cost,far⟩:=x;unfold recC;simp only [] at H5 hl |-
 have a1:=as3_1;have a2:=as3_2;have a3:=as3_3;have B0:Below w.heap.size w (w.alloc (.cells #[.int .i64 area,.int .i64 kind,.int .i64 owner,.int .i64 key,.int .i64 seq,.slice p1 ns.length c1,.int .i64 cost,.bool far] 178)):=(Below.refl _ _).alloc (Nat.le_refl _) _;by_cases hn0:ns.length=0
 case neg=>
  have hd:((ns.length:Int)==0)=false:=by simp;intro h;rw [h] at hn0;exact hn0 rfl
  have hd2:(ns.length==0)=false:=by simpa using hn0
  rw [hd2];clear hn0 hd2
  go_enter Tryz.func111,Tryz.ntmps111
  go_wp2
  go_ret
  exact⟨by simp,B0⟩
 have hd:((ns.length:Int)==0)=true:=by simp;exact List.length_eq_zero_iff.1 hn0
 have hd2:(ns.length==0)=true:=by simpa using hn0
 rw [hd2];clear hn0 hd2
 go_enter Tryz.func111,Tryz.ntmps111
 go_wp2_with fail
 refine (H5.out _).mono ?_
 rintro e w1 ⟨rfl,rfl⟩;cases q5
 all_goals
  go_wp2
  go_ret
  exact⟨by simp,B0⟩
theorem Zla (v1:Value)(x:RecD)(w:World)(hl:x.near.length<=1048576)(hv:ZaB w v1 x.near w.heap.size):
  Calls Tryz.prog 86 #[.agg (recC x v1)] w fun e w'=>e=.returned (.bool (Za8 x))/\Below w.heap.size w w':=by
 obtain⟨p1,c1,rfl⟩:=hv.shape;have HK:=hide (ZnN (.slice p1 x.near.length c1) x);obtain⟨R,hR⟩:∃ R,R=Za8 x:=⟨_,rfl⟩;rw [<-hR];unfold Za8 at hR;have H1:=hide (Zcb x.owner 1 6);have H2:=hide (Zcb x.seq 1 100000);obtain⟨q1,hq1⟩:∃ q,q=inB x.owner 1 6:=⟨_,rfl⟩;obtain⟨q2,hq2⟩:∃ q,q=inB x.seq 1 100000:=⟨_,rfl⟩;rw [<-hq1] at H1 hR;rw [<-hq2] at H2 hR;clear hq1 hq2;have B0:Below w.heap.size w (w.alloc (.cells (recC x (.slice p1 x.near.length c1)) 59)):=(Below.refl _ _).alloc (Nat.le_refl _) _;have hnew:=heap_alloc_new w (.cells (recC x (.slice p1 x.near.length c1)) 59);by_cases hk1:x.kind=1
 ·rw [if_pos hk1] at hR
  have hkv:Zek x (.slice p1 x.near.length c1)=.tuple #[.iface 176 (.agg (recC x (.slice p1 x.near.length c1))),.bool true]:=by unfold Zek;rw [if_pos hk1]
  rw [hkv] at HK;have HR:=hide hR;have HV:=hide hv;have NEW:=hide hnew;have HKEY:=hide (ZjW (.slice p1 x.near.length c1) x);have HBODY:=hide (fun W (h:Below w.heap.size w W)=>ZiA (.slice p1 x.near.length c1) x W hl (hv.then h))
  obtain⟨q3,hq3⟩:∃ q,q=(inB x.area 0 2&&x.key==0):=⟨_,rfl⟩;obtain⟨q4,hq4⟩:∃ q,q=(Zbj x.owner x.near&&x.cost==0 && !x.far):=⟨_,rfl⟩;rw [<-hq3] at HKEY;rw [<-hq4] at HBODY;have HR2:=hide (show R=(q1&&q2&&q3&&q4) by rw [HR.out,hq3,hq4];simp only [Bool.and_assoc])
  clear hR hkv hv hnew hq3 hq4 HR hk1;unfold recC at *
  go_enter Tryz.func86,Tryz.ntmps86
  go_wp2_with fail
  refine (HK.out _).mono ?_
  rintro e w1 ⟨rfl,b1⟩;have hx1:w1.heap[w.heap.size]? = some (.cells #[.int .i64 x.area,.int .i64 x.kind,.int .i64 x.owner,.int .i64 x.key,.int .i64 x.seq,.slice p1 x.near.length c1,.int .i64 x.cost,.bool x.far] 59):=by rw [b1.block _ (by simp)];exact NEW.out
  have f2:=Zaa hx1 2;have f4:=Zaa hx1 4;simp at f2 f4
  have B1:=B0.trans (b1.mono B0.size);clear hx1 b1
  go_wp2_with fail
  refine (H1.out _).mono ?_
  rintro e w2 ⟨rfl,rfl⟩;cases q1
  ·go_wp2
   go_ret
   exact⟨Zam (by rw [HR2.out];rfl),B1⟩
  go_wp2_with fail
  refine (H2.out _).mono ?_
  rintro e w2 ⟨rfl,rfl⟩;cases q2
  ·go_wp2
   go_ret
   exact⟨Zam (by rw [HR2.out];rfl),B1⟩
  go_wp2_with fail
  refine (HKEY.out _).mono ?_
  rintro e w2 ⟨rfl,b2⟩;have B2:=B1.trans (b2.mono B1.size);clear b2;cases q3
  ·go_wp2
   go_ret
   exact⟨Zam (by rw [HR2.out];rfl),B2⟩
  go_wp2_with fail
  refine (HBODY.out _ B2).mono ?_
  rintro e w3 ⟨rfl,b3⟩;have B3:=B2.trans (b3.mono B2.size);clear b3
  go_wp2
  go_ret
  exact⟨Zam (by rw [HR2.out];rfl),B3⟩
 rw [if_neg hk1] at hR;by_cases hk2:x.kind=2
 ·rw [if_pos hk2] at hR
  have hkv:Zek x (.slice p1 x.near.length c1)=.tuple #[.iface 177 (.agg (recC x (.slice p1 x.near.length c1))),.bool true]:=by unfold Zek;rw [if_neg hk1,if_pos hk2]
  rw [hkv] at HK;have HR:=hide hR;have HV:=hide hv;have NEW:=hide hnew;have HKEY:=hide (ZhM (.slice p1 x.near.length c1) x);have HBODY:=hide (fun W (h:Below w.heap.size w W)=>ZgZ (.slice p1 x.near.length c1) x W hl (hv.then h))
  obtain⟨q3,hq3⟩:∃ q,q=(inB x.area 0 2&&inB x.key 1 6):=⟨_,rfl⟩;obtain⟨q4,hq4⟩:∃ q,q=(x.near.length==0&&inB x.cost 0 60000 && !x.far):=⟨_,rfl⟩;rw [<-hq3] at HKEY;rw [<-hq4] at HBODY;have HR2:=hide (show R=(q1&&q2&&q3&&q4) by rw [HR.out,hq3,hq4];simp only [Bool.and_assoc])
  clear hR hkv hv hnew hq3 hq4 HR hk1 hk2;unfold recC at *
  go_enter Tryz.func86,Tryz.ntmps86
  go_wp2_with fail
  refine (HK.out _).mono ?_
  rintro e w1 ⟨rfl,b1⟩;have hx1:w1.heap[w.heap.size]? = some (.cells #[.int .i64 x.area,.int .i64 x.kind,.int .i64 x.owner,.int .i64 x.key,.int .i64 x.seq,.slice p1 x.near.length c1,.int .i64 x.cost,.bool x.far] 59):=by rw [b1.block _ (by simp)];exact NEW.out
  have f2:=Zaa hx1 2;have f4:=Zaa hx1 4;simp at f2 f4
  have B1:=B0.trans (b1.mono B0.size);clear hx1 b1
  go_wp2_with fail
  refine (H1.out _).mono ?_
  rintro e w2 ⟨rfl,rfl⟩;cases q1
  ·go_wp2
   go_ret
   exact⟨Zam (by rw [HR2.out];rfl),B1⟩
  go_wp2_with fail
  refine (H2.out _).mono ?_
  rintro e w2 ⟨rfl,rfl⟩;cases q2
  ·go_wp2
   go_ret
   exact⟨Zam (by rw [HR2.out];rfl),B1⟩
  go_wp2_with fail
  refine (HKEY.out _).mono ?_
  rintro e w2 ⟨rfl,b2⟩;have B2:=B1.trans (b2.mono B1.size);clear b2;cases q3
  ·go_wp2
   go_ret
   exact⟨Zam (by rw [HR2.out];rfl),B2⟩
  go_wp2_with fail
  refine (HBODY.out _ B2).mono ?_
  rintro e w3 ⟨rfl,b3⟩;have B3:=B2.trans (b3.mono B2.size);clear b3
  go_wp2
  go_ret
  exact⟨Zam (by rw [HR2.out];rfl),B3⟩
 rw [if_neg hk2] at hR;by_cases hk3:x.kind=3
 ·rw [if_pos hk3] at hR
  have hkv:Zek x (.slice p1 x.near.length c1)=.tuple #[.iface 178 (.agg (recC x (.slice p1 x.near.length c1))),.bool true]:=by unfold Zek;rw [if_neg hk1,if_neg hk2,if_pos hk3]
  rw [hkv] at HK;have HR:=hide hR;have HV:=hide hv;have NEW:=hide hnew;have HKEY:=hide (Zji (.slice p1 x.near.length c1) x);have HBODY:=hide (fun W (h:Below w.heap.size w W)=>ZhN (.slice p1 x.near.length c1) x W hl (hv.then h))
  obtain⟨q3,hq3⟩:∃ q,q=(x.area==9&&inB x.key 1 9):=⟨_,rfl⟩;obtain⟨q4,hq4⟩:∃ q,q=(x.near.length==0&&(inB x.cost 1 1000||x.cost==60000)):=⟨_,rfl⟩;rw [<-hq3] at HKEY;rw [<-hq4] at HBODY;have HR2:=hide (show R=(q1&&q2&&q3&&q4) by rw [HR.out,hq3,hq4];simp only [Bool.and_assoc])
  clear hR hkv hv hnew hq3 hq4 HR hk1 hk2 hk3;unfold recC at *
  go_enter Tryz.func86,Tryz.ntmps86
  go_wp2_with fail
  refine (HK.out _).mono ?_
  rintro e w1 ⟨rfl,b1⟩;have hx1:w1.heap[w.heap.size]? = some (.cells #[.int .i64 x.area,.int .i64 x.kind,.int .i64 x.owner,.int .i64 x.key,.int .i64 x.seq,.slice p1 x.near.length c1,.int .i64 x.cost,.bool x.far] 59):=by rw [b1.block _ (by simp)];exact NEW.out
  have f2:=Zaa hx1 2;have f4:=Zaa hx1 4;simp at f2 f4
  have B1:=B0.trans (b1.mono B0.size);clear hx1 b1
  go_wp2_with fail
  refine (H1.out _).mono ?_
  rintro e w2 ⟨rfl,rfl⟩;cases q1
  ·go_wp2
   go_ret
   exact⟨Zam (by rw [HR2.out];rfl),B1⟩
  go_wp2_with fail
  refine (H2.out _).mono ?_
  rintro e w2 ⟨rfl,rfl⟩;cases q2
  ·go_wp2
   go_ret
   exact⟨Zam (by rw [HR2.out];rfl),B1⟩
  go_wp2_with fail
  refine (HKEY.out _).mono ?_
  rintro e w2 ⟨rfl,b2⟩;have B2:=B1.trans (b2.mono B1.size);clear b2;cases q3
  ·go_wp2
   go_ret
   exact⟨Zam (by rw [HR2.out];rfl),B2⟩
  go_wp2_with fail
  refine (HBODY.out _ B2).mono ?_
  rintro e w3 ⟨rfl,b3⟩;have B3:=B2.trans (b3.mono B2.size);clear b3
  go_wp2
  go_ret
  exact⟨Zam (by rw [HR2.out];rfl),B3⟩
 rw [if_neg hk3] at hR;have hkv:Zek x (.slice p1 x.near.length c1)=.tuple #[.nilIface,.bool false]:=by unfold Zek;rw [if_neg hk1,if_neg hk2,if_neg hk3]
 rw [hkv] at HK;have hR2:R=false:=by rw [hR];simp
 have HR2:=hide hR2;clear hR hkv hv hnew hR2 H1 H2 hk1 hk2 hk3;unfold recC at *
 go_enter Tryz.func86,Tryz.ntmps86
 go_wp2_with fail
 refine (HK.out _).mono ?_
 rintro e w1 ⟨rfl,b1⟩;have B1:=B0.trans (b1.mono B0.size);clear b1
 go_wp2
 go_ret
 exact⟨Zam HR2.out,B1⟩
def ordR (x y:RecD):Int:=cmpK (cmpN x.area y.area) (cmpN x.kind y.kind) (cmpN x.owner y.owner) (cmpN x.key y.key)
theorem Zia (x y:RecD):decide (ordR x y<0)=Zas x y:=Znr x y
def ZaE (xs:List RecD):Bool:=decide (xs.length<=150)&&Zce Za8 xs&&ascB ordR xs
theorem Zde (v1 v2:Value)(x y:RecD)(w:World):Calls Tryz.prog 63 #[.agg (recC x v1),.agg (recC y v2)] w fun e w'=>e=.returned (.int .i64 (ordR x y))/\Below w.heap.size w w':=by
 have HK:=hide Zmp;unfold ordR;have HO:=hide (Zib x.area x.kind x.owner x.key y.area y.kind y.owner y.key);obtain⟨r,hr⟩:∃ r,r=cmpK (cmpN x.area y.area) (cmpN x.kind y.kind) (cmpN x.owner y.owner) (cmpN x.key y.key):=⟨_,rfl⟩;rw [<-hr] at HO |-;clear hr;unfold recC at *
 go_enter Tryz.func63,Tryz.ntmps63
 go_wp2
 obtain⟨w1,hw1⟩:∃ w1,w1=(w.alloc (.cells #[.int .i64 x.area,.int .i64 x.kind,.int .i64 x.owner,.int .i64 x.key,.int .i64 x.seq,v1,.int .i64 x.cost,.bool x.far] 59)).alloc (.cells #[.int .i64 y.area,.int .i64 y.kind,.int .i64 y.owner,.int .i64 y.key,.int .i64 y.seq,v2,.int .i64 y.cost,.bool y.far] 59):=⟨_,rfl⟩;have B1:Below w.heap.size w w1:=by rw [hw1];exact Za6 _ _
 have p0:w1.heap[w.heap.size]? = some (.cells #[.int .i64 x.area,.int .i64 x.kind,.int .i64 x.owner,.int .i64 x.key,.int .i64 x.seq,v1,.int .i64 x.cost,.bool x.far] 59):=by rw [hw1,Below.heap_alloc _ _ _ (by simp),heap_alloc_new]
 have q0:w1.heap[w.heap.size+1]? = some (.cells #[.int .i64 y.area,.int .i64 y.kind,.int .i64 y.owner,.int .i64 y.key,.int .i64 y.seq,v2,.int .i64 y.cost,.bool y.far] 59):=by
  rw [hw1];have:=heap_alloc_new (w.alloc (.cells #[.int .i64 x.area,.int .i64 x.kind,.int .i64 x.owner,.int .i64 x.key,.int .i64 x.seq,v1,.int .i64 x.cost,.bool x.far] 59)) (.cells #[.int .i64 y.area,.int .i64 y.kind,.int .i64 y.owner,.int .i64 y.key,.int .i64 y.seq,v2,.int .i64 y.cost,.bool y.far] 59)
  simpa using this
 rw [<-hw1];clear hw1;have s0:=Zaa p0 0;have s1:=Zaa p0 1;have s2:=Zaa p0 2;have s3:=Zaa p0 3;have s4:=Zaa p0 4;have s5:=Zaa p0 5;have s6:=Zaa p0 6;have s7:=Zaa p0 7;simp at s0 s1 s2 s3 s4 s5 s6 s7
 have t0:=Zaa q0 0;have t1:=Zaa q0 1;have t2:=Zaa q0 2;have t3:=Zaa q0 3;have t4:=Zaa q0 4;have t5:=Zaa q0 5;have t6:=Zaa q0 6;have t7:=Zaa q0 7;simp at t0 t1 t2 t3 t4 t5 t6 t7
 have hz0:=Zab p0;have hz1:=Zab q0;clear p0 q0;have hz2:=B1.size
 go_region_held3 (fun W=>W.cell? ⟨w.heap.size,0,none⟩=some (.int .i64 x.area)/\W.cell? ⟨w.heap.size,1,none⟩=some (.int .i64 x.kind)/\W.cell? ⟨w.heap.size,2,none⟩=some (.int .i64 x.owner)/\W.cell? ⟨w.heap.size,3,none⟩=some (.int .i64 x.key)/\W.cell? ⟨w.heap.size,4,none⟩=some (.int .i64 x.seq)/\W.cell? ⟨w.heap.size,5,none⟩=some (v1)/\W.cell? ⟨w.heap.size,6,none⟩=some (.int .i64 x.cost)/\W.cell? ⟨w.heap.size,7,none⟩=some (.bool x.far)/\W.cell? ⟨w.heap.size+1,0,none⟩=some (.int .i64 y.area)/\W.cell? ⟨w.heap.size+1,1,none⟩=some (.int .i64 y.kind)/\W.cell? ⟨w.heap.size+1,2,none⟩=some (.int .i64 y.owner)/\W.cell? ⟨w.heap.size+1,3,none⟩=some (.int .i64 y.key)/\W.cell? ⟨w.heap.size+1,4,none⟩=some (.int .i64 y.seq)/\W.cell? ⟨w.heap.size+1,5,none⟩=some (v2)/\W.cell? ⟨w.heap.size+1,6,none⟩=some (.int .i64 y.cost)/\W.cell? ⟨w.heap.size+1,7,none⟩=some (.bool y.far)) (first | go_keep | (refine ⟨?_,?_,?_,?_,?_,?_,?_,?_,?_,?_,?_,?_,?_,?_,?_,?_⟩ <;> (rw [b4.cell (Nat.lt_of_lt_of_le (Nat.lt_of_lt_of_le (by assumption) b2.size) b3.size),b3.cell (Nat.lt_of_lt_of_le (by assumption) b2.size),b2.cell (by assumption)];assumption)) | (refine ⟨?_,?_,?_,?_,?_,?_,?_,?_,?_,?_,?_,?_,?_,?_,?_,?_⟩ <;> (rw [b3.cell (Nat.lt_of_lt_of_le (by assumption) b2.size),b2.cell (by assumption)];assumption)) | (refine ⟨?_,?_,?_,?_,?_,?_,?_,?_,?_,?_,?_,?_,?_,?_,?_,?_⟩ <;> (rw [b2.cell (by assumption)];assumption))) (first | (go_at_call 95;refine (HO.out _).mono ?_;rintro e w4 ⟨rfl,b4⟩) | (have hb2:=b2;refine (HK.out _ _ _ _ _ _ _ _ _).mono ?_;rintro e w3 ⟨rfl,b3⟩) | (refine (HK.out _ _ _ _ _ _ _ _ _).mono ?_;rintro e w2 ⟨rfl,b2⟩))
 have B2:Below w.heap.size w w2:=B1.drew.trans (b2.mono B1.size);have B3:Below w.heap.size w w3:=B2.trans (b3.mono B2.size);have B4:Below w.heap.size w w4:=B3.trans (b4.mono B3.size)
 go_wp2
 go_ret
 exact⟨rfl,B4⟩
theorem ZkU (v:Value)(ps:List RP)(w:World)(hls:ps.length<=1048576)(hv:ZbK w v ps w.heap.size):
  Calls Tryz.prog 112 #[v,.func (.func 63) #[] #[]] w fun e w'=>e=.returned (.bool (ascB ordR (fsts ps)))/\Below w.heap.size w w':=by
 obtain⟨a,cap,rfl⟩:=hv.shape;have HV:=hide hv;clear hv;have hfl:(fsts ps).length=ps.length:=by simp [fsts]
 have HFL:=hide hfl;clear hfl
 go_enter Tryz.func112,Tryz.ntmps112
 go_wp2
 go_loopw [5] (fun i wr=>∃ k:Nat,1<=k/\(k<=ps.length\/k=1)/\i=.int .i64 k/\(∀ j,j<k->ZcF ordR (fsts ps) j=true)/\Below w.heap.size w wr) (fun i _=>ps.length+1-(intOf i).toNat)
 case atStart=>exact ⟨1,by omega,by omega,rfl,fun j hj=>by (obtain rfl:j=0:=by omega);rfl,Below.refl _ _⟩
 case round=>
  obtain⟨k,hk1,hk,rfl,hno,hb⟩:=hrel;have HNO:=hide hno;clear hno;by_cases hlt:k<ps.length
  ·obtain ⟨l,hl⟩:∃ l,ps[k]? = some l:=⟨ps[k],List.getElem?_eq_getElem hlt⟩
   obtain⟨j,hj⟩:∃ j,k=j+1:=⟨k-1,by omega⟩
   obtain⟨p,hp⟩:∃ p,ps[j]? = some p:=⟨ps[j],List.getElem?_eq_getElem (by omega)⟩
   obtain⟨b,off,cap',hve,hbb,c0,c1,c2,c3,c4,c5,c6,c7,_⟩:=HV.out.cells k l hl;cases hve
   obtain⟨b',off',cap2,hve2,hbb2,d0,d1,d2,d3,d4,d5,d6,d7,_⟩:=HV.out.cells j p hp;cases hve2
   rw [<-hb.cell (p:=⟨b,off+k*8,none⟩) hbb] at c0;rw [<-hb.cell (p:=⟨b,off+k*8+1,none⟩) hbb] at c1;rw [<-hb.cell (p:=⟨b,off+k*8+2,none⟩) hbb] at c2;rw [<-hb.cell (p:=⟨b,off+k*8+3,none⟩) hbb] at c3;rw [<-hb.cell (p:=⟨b,off+k*8+4,none⟩) hbb] at c4;rw [<-hb.cell (p:=⟨b,off+k*8+5,none⟩) hbb] at c5;rw [<-hb.cell (p:=⟨b,off+k*8+6,none⟩) hbb] at c6;rw [<-hb.cell (p:=⟨b,off+k*8+7,none⟩) hbb] at c7;rw [<-hb.cell (p:=⟨b,off+j*8,none⟩) hbb] at d0;rw [<-hb.cell (p:=⟨b,off+j*8+1,none⟩) hbb] at d1;rw [<-hb.cell (p:=⟨b,off+j*8+2,none⟩) hbb] at d2;rw [<-hb.cell (p:=⟨b,off+j*8+3,none⟩) hbb] at d3;rw [<-hb.cell (p:=⟨b,off+j*8+4,none⟩) hbb] at d4;rw [<-hb.cell (p:=⟨b,off+j*8+5,none⟩) hbb] at d5;rw [<-hb.cell (p:=⟨b,off+j*8+6,none⟩) hbb] at d6;rw [<-hb.cell (p:=⟨b,off+j*8+7,none⟩) hbb] at d7;have hat:ZcF ordR (fsts ps) k=decide (ordR p.1 l.1<0):=by rw [hj];exact ZbF (Zbo hp) (by rw [<-hj];exact Zbo hl)
   have hzr:=hb.size;have hbr:b<wr.heap.size:=by omega
   have hki:(0:Int)<=(k:Int):=by omega
   have hkj:(k:Int)<(ps.length:Int):=by omega
   have hj1:(k:Int)-1=(j:Int):=by omega
   have hj2:(0:Int)<=(j:Int):=by omega
   have hj3:(j:Int)<(ps.length:Int):=by omega
   have hj5:IntKind.i64.wrap (j:Int)=(j:Int):=ZaO _ (by omega) (by omega)
   have HORD:=hide (Zde p.2 l.2 p.1 l.1);have HAT:=hide hat;clear hl hp hat hj;obtain⟨x,hx⟩:∃ x,x=ordR p.1 l.1:=⟨_,rfl⟩;rw [<-hx] at HORD HAT;clear hx;unfold recC at HORD;by_cases hx0:x<0
   ·have hx1:¬(0:Int)<=x:=by omega
    rw [decide_eq_true hx0] at HAT
    go_wp2
    go_region_held3 (fun W=>W.cell? ⟨b,off+k*8,none⟩=some (.int .i64 l.1.area)/\W.cell? ⟨b,off+k*8+1,none⟩=some (.int .i64 l.1.kind)/\W.cell? ⟨b,off+k*8+2,none⟩=some (.int .i64 l.1.owner)/\W.cell? ⟨b,off+k*8+3,none⟩=some (.int .i64 l.1.key)/\W.cell? ⟨b,off+k*8+4,none⟩=some (.int .i64 l.1.seq)/\W.cell? ⟨b,off+k*8+5,none⟩=some (l.2)/\W.cell? ⟨b,off+k*8+6,none⟩=some (.int .i64 l.1.cost)/\W.cell? ⟨b,off+k*8+7,none⟩=some (.bool l.1.far)/\W.cell? ⟨b,off+j*8,none⟩=some (.int .i64 p.1.area)/\W.cell? ⟨b,off+j*8+1,none⟩=some (.int .i64 p.1.kind)/\W.cell? ⟨b,off+j*8+2,none⟩=some (.int .i64 p.1.owner)/\W.cell? ⟨b,off+j*8+3,none⟩=some (.int .i64 p.1.key)/\W.cell? ⟨b,off+j*8+4,none⟩=some (.int .i64 p.1.seq)/\W.cell? ⟨b,off+j*8+5,none⟩=some (p.2)/\W.cell? ⟨b,off+j*8+6,none⟩=some (.int .i64 p.1.cost)/\W.cell? ⟨b,off+j*8+7,none⟩=some (.bool p.1.far)) (first | go_keep | (refine ⟨?_,?_,?_,?_,?_,?_,?_,?_,?_,?_,?_,?_,?_,?_,?_,?_⟩ <;> (rw [hbc.cell (by assumption)];assumption))) (first | (go_at_call 63;refine (HORD.out _).mono ?_;rintro e w2 ⟨rfl,hbc⟩))
    go_wp2
    exact⟨⟨k+1,by omega,by omega,by go_num,ZaZ HNO.out HAT.out,hb.drew.trans (hbc.mono hb.size)⟩,by simp [intOf];omega⟩
   ·have hx1:(0:Int)<=x:=by omega
    rw [decide_eq_false hx0] at HAT;have hf:ascB ordR (fsts ps)=false:=Zbe (by rw [HFL.out];exact hlt) HAT.out
    have HF:=hide hf;clear hf
    go_wp2
    go_region_held3 (fun W=>W.cell? ⟨b,off+k*8,none⟩=some (.int .i64 l.1.area)/\W.cell? ⟨b,off+k*8+1,none⟩=some (.int .i64 l.1.kind)/\W.cell? ⟨b,off+k*8+2,none⟩=some (.int .i64 l.1.owner)/\W.cell? ⟨b,off+k*8+3,none⟩=some (.int .i64 l.1.key)/\W.cell? ⟨b,off+k*8+4,none⟩=some (.int .i64 l.1.seq)/\W.cell? ⟨b,off+k*8+5,none⟩=some (l.2)/\W.cell? ⟨b,off+k*8+6,none⟩=some (.int .i64 l.1.cost)/\W.cell? ⟨b,off+k*8+7,none⟩=some (.bool l.1.far)/\W.cell? ⟨b,off+j*8,none⟩=some (.int .i64 p.1.area)/\W.cell? ⟨b,off+j*8+1,none⟩=some (.int .i64 p.1.kind)/\W.cell? ⟨b,off+j*8+2,none⟩=some (.int .i64 p.1.owner)/\W.cell? ⟨b,off+j*8+3,none⟩=some (.int .i64 p.1.key)/\W.cell? ⟨b,off+j*8+4,none⟩=some (.int .i64 p.1.seq)/\W.cell? ⟨b,off+j*8+5,none⟩=some (p.2)/\W.cell? ⟨b,off+j*8+6,none⟩=some (.int .i64 p.1.cost)/\W.cell? ⟨b,off+j*8+7,none⟩=some (.bool p.1.far)) (first | go_keep | (refine ⟨?_,?_,?_,?_,?_,?_,?_,?_,?_,?_,?_,?_,?_,?_,?_,?_⟩ <;> (rw [hbc.cell (by assumption)];assumption))) (first | (go_at_call 63;refine (HORD.out _).mono ?_;rintro e w2 ⟨rfl,hbc⟩))
    go_wp2
    go_ret
    exact⟨Zam HF.out,hb.drew.trans (hbc.mono hb.size)⟩
  ·have hall:ascB ordR (fsts ps)=true:=Zbf fun i hi=>HNO.out i (by have:=HFL.out;omega)
   have HA:=hide hall;clear hall
   go_wp2
   go_ret
   exact⟨Zam HA.out,hb⟩
theorem ZjJ (v:Value)(ps:List RP)(w:World)(hls:ps.length<=1048576)(hv:ZbK w v ps w.heap.size):
  Calls Tryz.prog 87 #[v] w fun e w'=>e=.returned (.bool (ascB ordR (fsts ps)))/\Below w.heap.size w w':=by
 have H:=hide (ZkU v ps w hls hv);obtain⟨a,cap,rfl⟩:=hv.shape;clear hv
 go_enter Tryz.func87,Tryz.ntmps87
 go_wp2_with fail
 refine H.out.mono ?_
 rintro e w1 ⟨rfl,b1⟩
 go_wp2
 go_ret
 exact⟨rfl,b1⟩
theorem Zhz {xs:List RecD}(h:¬xs.length<=150):ZaE xs=false:=by unfold ZaE;rw [decide_eq_false h];rfl
theorem Zje {xs:List RecD}{k:Nat}(hk:k<xs.length)(h:okAt Za8 xs k=false):ZaE xs=false:=by unfold ZaE Zce;rw [Zbe hk h];simp
theorem ZiT (v:Value)(ps:List RP)(w:World)(hn:tot ps<=1048576)(hv:ZbK w v ps w.heap.size):
  Calls Tryz.prog 55 #[v] w fun e w'=>e=.returned (.bool (ZaE (fsts ps)))/\Below w.heap.size w w':=by
 have hnl:=ZbI ps;obtain⟨a,cap,rfl⟩:=hv.shape;have HV:=hide hv;clear hv;have hfl:(fsts ps).length=ps.length:=by simp [fsts]
 by_cases hlong:(150:Int)<(ps.length:Int)
 ·have HF:=hide (Zhz (xs:=fsts ps) (by omega))
  clear hfl
  go_enter Tryz.func55,Tryz.ntmps55
  go_wp2
  go_ret
  exact⟨Zam HF.out,Below.refl _ _⟩
 have HFL:=hide hfl;clear hfl
 go_enter Tryz.func55,Tryz.ntmps55
 go_wp2
 go_loopw [10] (fun i wr=>∃ k:Nat,k<=ps.length/\i=.int .i64 k/\(∀ j,j<k->okAt Za8 (fsts ps) j=true)/\Below w.heap.size w wr) (fun i _=>ps.length-(intOf i).toNat)
 case atStart=>exact ⟨0,by omega,rfl,by omega,Below.refl _ _⟩
 case round=>
  obtain⟨k,hk,rfl,hall,hnx⟩:=hrel;have HALL:=hide hall;clear hall;have hsz:=hnx.size;by_cases hlt:k<ps.length
  ·obtain ⟨p,hp⟩:∃ p,ps[k]? = some p:=⟨ps[k],List.getElem?_eq_getElem hlt⟩
   obtain⟨b,off,cap',hve,hbb,c0,c1,c2,c3,c4,c5,c6,c7,hnr⟩:=HV.out.cells k p hp;cases hve
   rw [<-hnx.cell (p:=⟨b,off+k*8,none⟩) hbb] at c0;rw [<-hnx.cell (p:=⟨b,off+k*8+1,none⟩) hbb] at c1;rw [<-hnx.cell (p:=⟨b,off+k*8+2,none⟩) hbb] at c2;rw [<-hnx.cell (p:=⟨b,off+k*8+3,none⟩) hbb] at c3;rw [<-hnx.cell (p:=⟨b,off+k*8+4,none⟩) hbb] at c4;rw [<-hnx.cell (p:=⟨b,off+k*8+5,none⟩) hbb] at c5;rw [<-hnx.cell (p:=⟨b,off+k*8+6,none⟩) hbb] at c6;rw [<-hnx.cell (p:=⟨b,off+k*8+7,none⟩) hbb] at c7;have hnr2:=(ZaR.later hnr hnx (Nat.le_refl _)).more hnx.size;obtain⟨pa,pc,hpn⟩:=ZaB.shape hnr;have HOK:=fun o=>Zla p.2 p.1 (wr.alloc o) (by have:=ZgX (List.mem_of_getElem? hp);omega) (ZaR.then hnr2 ((Below.refl _ _).alloc (Nat.le_refl _) o))
   unfold recC at HOK;rw [hpn] at c5 HOK;have HAT:=Zcz (ok:=Za8) (Zbo hp);obtain⟨q,hq⟩:∃ q,q=Za8 p.1:=⟨_,rfl⟩;rw [<-hq] at HOK HAT;have HOK2:=hide HOK;have HAT2:=hide HAT;clear hp hnr hnr2 hpn HOK HAT hq;have hki:(0:Int)<=(k:Int):=by omega
   have hkj:(k:Int)<(ps.length:Int):=by omega
   go_wp2_with fail
   refine (HOK2.out _).mono ?_
   rintro e w2 ⟨rfl,b2⟩;have B2:Below w.heap.size w w2:=(hnx.alloc hsz _).trans (b2.mono (by simp;omega))
   cases q
   ·have HF:=hide (Zje (by rw [HFL.out];exact hlt) HAT2.out)
    go_wp2
    go_ret
    exact⟨Zam HF.out,B2⟩
   ·go_wp2
    go_roundw
    case rel=>exact ⟨k+1,by omega,by go_num,ZaZ HALL.out HAT2.out,B2⟩
    case measure=>simp [intOf];omega
  ·have e1:Zce Za8 (fsts ps)=true:=Zbf fun i hi=>HALL.out i (by have:=HFL.out;omega)
   have e2:ZaE (fsts ps)=ascB ordR (fsts ps):=by
    unfold ZaE;rw [e1,decide_eq_true (by have:=HFL.out;omega)]
    rfl
   have HE:=hide e2;have HIO:=hide (ZjJ (.slice a ps.length cap) ps wr (by omega) ((HV.out.later hnx (Nat.le_refl _)).more hsz))
   clear e1 e2
   go_wp2_with fail
   refine HIO.out.mono ?_
   rintro e w2 ⟨rfl,b2⟩
   go_wp2
   go_ret
   exact⟨Zam HE.out,hnx.trans (b2.mono hsz)⟩
end Go.Proofs.YtgdgkgmjpnbbcaaGreat
