/-
  IKind INear IBodyOk IRecOk OwnI
-/
import Derived.Test.YtcimbiinljcifaaGreatLn6
import Derived.Test.YtcimbiinljcifaaGreatLn2
import Derived.Test.YtcimbiinljcifaaGreatLn10
import Derived.Test.YtcimbiinljcifaaGreatLn11
namespace Go.Proofs.YtcimbiinljcifaaGreat
open Go.RowKit
set_option linter.unusedSimpArgs false
set_option linter.unusedVariables false
set_option maxRecDepth 100000
set_option maxHeartbeats 8000000
def Zdr (x:RecD)(v1:Value):Value:=
 if x.kind=1 then .tuple #[.iface 174 (.agg (recC x v1)),.bool true]
 else if x.kind=2 then .tuple #[.iface 175 (.agg (recC x v1)),.bool true]
 else if x.kind=3 then .tuple #[.iface 176 (.agg (recC x v1)),.bool true]
 else .tuple #[.nilIface,.bool false]
theorem Zk9 (v1:Value)(x:RecD)(w:World):
  Calls Tryz.prog 120 #[.agg (recC x v1)] w fun e w'=>e=.returned (Zdr x v1)/\Below w.heap.size w w':=by
 have hV:Zdr x v1=Zdr x v1:=rfl;obtain⟨area,kind,owner,key,seq,ns,cost,far⟩:=x;by_cases hk1:kind=1
 ·subst hk1
  have e:Zdr ⟨area,1,owner,key,seq,ns,cost,far⟩ v1=.tuple #[.iface 174 (.agg (recC ⟨area,1,owner,key,seq,ns,cost,far⟩ v1)),.bool true]:=rfl;rw [e];unfold recC;simp only []
  clear e hV
  go_enter Tryz.func120,Tryz.ntmps120
  go_wp2
  go_ret2
  exact⟨rfl,(Below.refl _ _).alloc (Nat.le_refl _) _⟩
 have k1:(kind==1)=false:=by simpa using hk1
 by_cases hk2:kind=2
 ·subst hk2
  have e:Zdr ⟨area,2,owner,key,seq,ns,cost,far⟩ v1=.tuple #[.iface 175 (.agg (recC ⟨area,2,owner,key,seq,ns,cost,far⟩ v1)),.bool true]:=rfl;rw [e];unfold recC;simp only []
  clear e hV k1 hk1
  go_enter Tryz.func120,Tryz.ntmps120
  go_wp2
  go_ret2
  exact⟨rfl,(Below.refl _ _).alloc (Nat.le_refl _) _⟩
 have k2:(kind==2)=false:=by simpa using hk2
 by_cases hk3:kind=3
 ·subst hk3
  have e:Zdr ⟨area,3,owner,key,seq,ns,cost,far⟩ v1=.tuple #[.iface 176 (.agg (recC ⟨area,3,owner,key,seq,ns,cost,far⟩ v1)),.bool true]:=rfl;rw [e];unfold recC;simp only []
  clear e hV k1 hk1 k2 hk2
  go_enter Tryz.func120,Tryz.ntmps120
  go_wp2
  go_ret2
  exact⟨rfl,(Below.refl _ _).alloc (Nat.le_refl _) _⟩
 have k3:(kind==3)=false:=by simpa using hk3
 have e:Zdr ⟨area,kind,owner,key,seq,ns,cost,far⟩ v1=.tuple #[.nilIface,.bool false]:=by unfold Zdr;rw [if_neg hk1,if_neg hk2,if_neg hk3]
 rw [e];unfold recC;simp only []
 clear e hV hk1 hk2 hk3
 go_enter Tryz.func120,Tryz.ntmps120
 go_wp2
 go_ret2
 exact⟨rfl,(Below.refl _ _).alloc (Nat.le_refl _) _⟩
theorem Zif (v1:Value)(x:RecD)(w:World):
  Calls Tryz.prog 171 #[.agg (recC x v1)] w fun e w'=>e=.returned (.bool (inB x.area 0 2&&x.key==0))/\Below w.heap.size w w':=by
 obtain⟨area,kind,owner,key,seq,ns,cost,far⟩:=x;unfold recC;simp only []
 have H1:=hide (ZaZ area 0 2);obtain⟨q1,hq1⟩:∃ q,q=inB area 0 2:=⟨_,rfl⟩;rw [<-hq1] at H1 |-;clear hq1
 go_enter Tryz.func171,Tryz.ntmps171
 go_wp2_with fail
 refine (H1.out _).mono ?_
 rintro e w1 ⟨rfl,rfl⟩;cases q1
 ·go_wp2
  go_ret
  exact⟨by simp,(Below.refl _ _).alloc (Nat.le_refl _) _⟩
 ·go_wp2
  go_ret
  exact⟨by simp,(Below.refl _ _).alloc (Nat.le_refl _) _⟩
theorem ZgA (v1:Value)(x:RecD)(w:World):
  Calls Tryz.prog 172 #[.agg (recC x v1)] w fun e w'=>e=.returned (.bool (inB x.area 0 2&&inB x.key 1 6))/\Below w.heap.size w w':=by
 obtain⟨area,kind,owner,key,seq,ns,cost,far⟩:=x;unfold recC;simp only []
 have H1:=hide (ZaZ area 0 2);have H2:=hide (ZaZ key 1 6);obtain⟨q1,hq1⟩:∃ q,q=inB area 0 2:=⟨_,rfl⟩;obtain⟨q2,hq2⟩:∃ q,q=inB key 1 6:=⟨_,rfl⟩;rw [<-hq1] at H1 |-;rw [<-hq2] at H2 |-;clear hq1 hq2
 go_enter Tryz.func172,Tryz.ntmps172
 go_wp2_with fail
 refine (H1.out _).mono ?_
 rintro e w1 ⟨rfl,rfl⟩;cases q1
 ·go_wp2
  go_ret
  exact⟨by simp,(Below.refl _ _).alloc (Nat.le_refl _) _⟩
 ·go_wp2_with fail
  refine (H2.out _).mono ?_
  rintro e w1 ⟨rfl,rfl⟩
  go_wp2
  go_ret
  exact⟨by simp,(Below.refl _ _).alloc (Nat.le_refl _) _⟩
theorem ZhO (v1:Value)(x:RecD)(w:World):
  Calls Tryz.prog 173 #[.agg (recC x v1)] w fun e w'=>e=.returned (.bool (x.area==9&&inB x.key 1 9))/\Below w.heap.size w w':=by
 obtain⟨area,kind,owner,key,seq,ns,cost,far⟩:=x;unfold recC;simp only []
 have H2:=hide (ZaZ key 1 9);obtain⟨q2,hq2⟩:∃ q,q=inB key 1 9:=⟨_,rfl⟩;rw [<-hq2] at H2 |-;clear hq2;by_cases ha:area=9
 ·subst ha
  go_enter Tryz.func173,Tryz.ntmps173
  go_wp2_with fail
  refine (H2.out _).mono ?_
  rintro e w1 ⟨rfl,rfl⟩
  go_wp2
  go_ret
  exact⟨by simp,(Below.refl _ _).alloc (Nat.le_refl _) _⟩
 ·have hd:(area==9)=false:=by simpa using ha
  go_enter Tryz.func173,Tryz.ntmps173
  go_wp2
  go_ret
  exact⟨by simp [hd],(Below.refl _ _).alloc (Nat.le_refl _) _⟩
def Zeh (p l:Nr):Int:=cmpN p.to l.to
theorem Zl9 (ls:List Nr):ascB Zeh ls=ascB ordN ls:=by
 unfold ascB
 congr 1
 funext k
 cases k with
 | zero=>rfl
 | succ k=>
  simp only [ZbA]
  split
  ·rename_i p l _ _
   have h:(Zeh p l<0)↔(ordN p l<0):=by
    unfold Zeh ordN;rw [ZdU];omega
   exact decide_eq_decide.2 h
  ·rfl
theorem ZgV (l m:Nr)(w:World):Calls Tryz.prog 144 #[nrV l,nrV m] w fun e w'=>e=.returned (.int .i64 (Zeh l m))/\Below w.heap.size w w':=by
 obtain⟨a,b⟩:=l;obtain⟨a',b'⟩:=m;unfold nrV Zeh;simp only []
 have H:=hide (Zbw a a')
 go_enter Tryz.func144,Tryz.ntmps144
 go_wp2_with fail
 refine (H.out _).mono ?_
 rintro e w1 ⟨rfl,rfl⟩
 go_wp2
 go_ret
 exact⟨rfl,ZaW _ _⟩
theorem ZhT (v:Value)(ls:List Nr)(w:World)(hls:ls.length<=1048576)(hv:ZaA w v ls w.heap.size):
  Calls Tryz.prog 143 #[v,.func (.func 144) #[] #[]] w fun e w'=>e=.returned (.bool (ascB Zeh ls))/\Below w.heap.size w w':=by
 obtain⟨a,cap,rfl⟩:=hv.shape;have HV:=hide hv;clear hv
 go_enter Tryz.func143,Tryz.ntmps143
 go_wp2
 go_loopw [5] (fun i wr=>∃ k:Nat,1<=k/\(k<=ls.length\/k=1)/\i=.int .i64 k/\(∀ j,j<k->ZbA Zeh ls j=true)/\Below w.heap.size w wr) (fun i _=>ls.length+1-(intOf i).toNat)
 case atStart=>exact ⟨1,by omega,by omega,rfl,fun j hj=>by (obtain rfl:j=0:=by omega);rfl,Below.refl _ _⟩
 case round=>
  obtain⟨k,hk1,hk,rfl,hno,hb⟩:=hrel;have HNO:=hide hno;clear hno;by_cases hlt:k<ls.length
  ·obtain ⟨l,hl⟩:∃ l,ls[k]? = some l:=⟨ls[k],List.getElem?_eq_getElem hlt⟩
   obtain⟨j,hj⟩:∃ j,k=j+1:=⟨k-1,by omega⟩
   obtain⟨p,hp⟩:∃ p,ls[j]? = some p:=⟨ls[j],List.getElem?_eq_getElem (by omega)⟩
   obtain⟨b,off,cap',hve,hbb,c0,c1⟩:=HV.out.cells k l hl;cases hve
   obtain⟨b',off',cap2,hve2,hbb2,d0,d1⟩:=HV.out.cells j p hp;cases hve2
   rw [<-hb.cell (p:=⟨b,off+k*2,none⟩) hbb] at c0;rw [<-hb.cell (p:=⟨b,off+k*2+1,none⟩) hbb] at c1;rw [<-hb.cell (p:=⟨b,off+j*2,none⟩) hbb] at d0;rw [<-hb.cell (p:=⟨b,off+j*2+1,none⟩) hbb] at d1;have hat:ZbA Zeh ls k=decide (Zeh p l<0):=by rw [hj];exact Za6 hp (by rw [<-hj];exact hl)
   have hzr:=hb.size;have hbr:b<wr.heap.size:=by omega
   have hki:(0:Int)<=(k:Int):=by omega
   have hkj:(k:Int)<(ls.length:Int):=by omega
   have hj1:(k:Int)-1=(j:Int):=by omega
   have hj2:(0:Int)<=(j:Int):=by omega
   have hj3:(j:Int)<(ls.length:Int):=by omega
   have hj5:IntKind.i64.wrap (j:Int)=(j:Int):=ZaD _ (by omega) (by omega)
   have HORD:=hide (ZgV p l);have HAT:=hide hat;have HJ:=hide hj;clear hl hp hat hj;obtain⟨x,hx⟩:∃ x,x=Zeh p l:=⟨_,rfl⟩;rw [<-hx] at HORD HAT;clear hx;unfold nrV at HORD;by_cases hx0:x<0
   ·have hx1:¬(0:Int)<=x:=by omega
    rw [decide_eq_true hx0] at HAT
    go_wp2
    go_region_held3 (fun W=>W.cell? ⟨b,off+k*2,none⟩=some (.int .i64 l.to)/\W.cell? ⟨b,off+k*2+1,none⟩=some (.int .i64 l.c)/\W.cell? ⟨b,off+j*2,none⟩=some (.int .i64 p.to)/\W.cell? ⟨b,off+j*2+1,none⟩=some (.int .i64 p.c)) (first | go_keep | (refine ⟨?_,?_,?_,?_⟩ <;> (rw [hbc.cell (by assumption)];assumption))) (first | (go_at_call 144;refine (HORD.out _).mono ?_;rintro e w2 ⟨rfl,hbc⟩))
    go_wp2
    exact⟨⟨k+1,by omega,by omega,by go_num,ZaC HNO.out HAT.out,hb.drew.trans (hbc.mono hb.size)⟩,by simp [intOf];omega⟩
   ·have hx1:(0:Int)<=x:=by omega
    rw [decide_eq_false hx0] at HAT;have hf:ascB Zeh ls=false:=ZaF hlt HAT.out;have HF:=hide hf;clear hf
    go_wp2
    go_region_held3 (fun W=>W.cell? ⟨b,off+k*2,none⟩=some (.int .i64 l.to)/\W.cell? ⟨b,off+k*2+1,none⟩=some (.int .i64 l.c)/\W.cell? ⟨b,off+j*2,none⟩=some (.int .i64 p.to)/\W.cell? ⟨b,off+j*2+1,none⟩=some (.int .i64 p.c)) (first | go_keep | (refine ⟨?_,?_,?_,?_⟩ <;> (rw [hbc.cell (by assumption)];assumption))) (first | (go_at_call 144;refine (HORD.out _).mono ?_;rintro e w2 ⟨rfl,hbc⟩))
    go_wp2
    go_ret
    exact⟨Zaf HF.out,hb.drew.trans (hbc.mono hb.size)⟩
  ·have hall:ascB Zeh ls=true:=ZaG fun i hi=>HNO.out i (by omega)
   have HA:=hide hall;clear hall
   go_wp2
   go_ret
   exact⟨Zaf HA.out,hb⟩
theorem Zj8 (o:Int)(v:Value)(ls:List Nr)(w:World)(hls:ls.length<=1048576)(hv:ZaA w v ls w.heap.size):
  Calls Tryz.prog 136 #[.int .i64 o,v] w fun e w'=>e=.returned (.bool (Za1 o ls))/\Below w.heap.size w w':=by
 obtain⟨a,cap,rfl⟩:=hv.shape;have HV:=hide hv;clear hv
 go_enter Tryz.func136,Tryz.ntmps136
 go_wp2
 go_loopw [9] (fun i wr=>∃ k:Nat,k<=ls.length/\i=.int .i64 k/\(∀ j,j<k->okAt (ZbC o) ls j=true)/\Below w.heap.size w wr) (fun i _=>ls.length-(intOf i).toNat)
 case atStart=>exact ⟨0,by omega,rfl,by omega,Below.refl _ _⟩
 case round=>
  obtain⟨k,hk,rfl,hno,hb⟩:=hrel;have HNO:=hide hno;clear hno;by_cases hlt:k<ls.length
  ·obtain ⟨l,hl⟩:∃ l,ls[k]? = some l:=⟨ls[k],List.getElem?_eq_getElem hlt⟩
   obtain⟨b,off,cap',hve,hbb,c0,c1⟩:=HV.out.cells k l hl;cases hve
   rw [<-hb.cell (p:=⟨b,off+k*2,none⟩) hbb] at c0;rw [<-hb.cell (p:=⟨b,off+k*2+1,none⟩) hbb] at c1;have hki:(0:Int)<=(k:Int):=by omega
   have hkj:(k:Int)<(ls.length:Int):=by omega
   have HAT:=hide (Zbh (ok:=ZbC o) hl);obtain⟨lt,lc⟩:=l;simp only [ZbC] at HAT c0 c1
   obtain⟨q1,hq1⟩:∃ q,q=inB lt 1 6:=⟨_,rfl⟩;obtain⟨q3,hq3⟩:∃ q,q=inB lc 1 1000:=⟨_,rfl⟩;have H1:=hide (ZaZ lt 1 6);have H3:=hide (ZaZ lc 1 1000);rw [<-hq1] at H1 HAT;rw [<-hq3] at H3 HAT;clear hl hq1 hq3;have hzr:=hb.size;have B2:Below w.heap.size w (wr.alloc (.cells #[.int .i64 lt,.int .i64 lc] 98)):=hb.alloc hb.size _
   go_wp2_with fail
   refine (H1.out _).mono ?_
   rintro e w2 ⟨rfl,rfl⟩;cases q1
   ·have hf:Za1 o ls=false:=by unfold Za1 Zbl;rw [ZaF hlt HAT.out];rfl
    have HF:=hide hf;clear hf
    go_wp2
    go_ret
    exact⟨Zaf HF.out,B2⟩
   by_cases hlo:lt=o
   ·have hd:(lt==o)=true:=by simpa using hlo
    have hf:Za1 o ls=false:=by
     have:=HAT.out;rw [hd] at this;unfold Za1 Zbl;rw [ZaF hlt this];rfl
    have HF:=hide hf;clear hf hlo HAT
    go_wp2
    go_ret
    exact⟨Zaf HF.out,B2⟩
   have hd:(lt==o)=false:=by simpa using hlo
   rw [hd] at HAT;clear hlo
   go_wp2_with fail
   refine (H3.out _).mono ?_
   rintro e w2 ⟨rfl,rfl⟩;cases q3
   ·have hf:Za1 o ls=false:=by unfold Za1 Zbl;rw [ZaF hlt HAT.out];rfl
    have HF:=hide hf;clear hf
    go_wp2
    go_ret
    exact⟨Zaf HF.out,B2⟩
   ·go_wp2
    exact⟨⟨k+1,by omega,by go_num,ZaC HNO.out HAT.out,B2⟩,by simp [intOf];omega⟩
  ·have hall:Zbl (ZbC o) ls=true:=ZaG fun i hi=>HNO.out i (by omega)
   have hF:Za1 o ls=ascB Zeh ls:=by unfold Za1;rw [hall,Zl9];rfl
   have HF:=hide hF;clear hF hall;have HVR:=hide (HV.out.then hb)
   go_wp2_with fail
   refine (ZhT _ ls _ hls HVR.out).mono ?_
   rintro e w2 ⟨rfl,hbc⟩
   go_wp2
   go_ret
   exact⟨Zaf HF.out,hb.trans (hbc.mono hb.size)⟩
def nilC:Array Value:=#[.int .i64 0,.int .i64 0,.int .i64 0,.int .i64 0,.int .i64 0,.slice none 0 0,.int .i64 0,.bool false]
theorem as1_1 (v:Value)(w:World):(Instr.typeAssert (.iface 174 v) 157 174 true).run Tryz.prog w=.ok (.tuple #[v,.bool true]) w:=by kernel_rfl
theorem as2_1 (v:Value)(w:World):(Instr.typeAssert (.iface 175 v) 157 174 true).run Tryz.prog w=.ok (.tuple #[.agg nilC,.bool false]) w:=by kernel_rfl
theorem as2_2 (v:Value)(w:World):(Instr.typeAssert (.iface 175 v) 157 175 true).run Tryz.prog w=.ok (.tuple #[v,.bool true]) w:=by kernel_rfl
theorem as3_1 (v:Value)(w:World):(Instr.typeAssert (.iface 176 v) 157 174 true).run Tryz.prog w=.ok (.tuple #[.agg nilC,.bool false]) w:=by kernel_rfl
theorem as3_2 (v:Value)(w:World):(Instr.typeAssert (.iface 176 v) 157 175 true).run Tryz.prog w=.ok (.tuple #[.agg nilC,.bool false]) w:=by kernel_rfl
theorem as3_3 (v:Value)(w:World):(Instr.typeAssert (.iface 176 v) 157 176 true).run Tryz.prog w=.ok (.tuple #[v,.bool true]) w:=by kernel_rfl
theorem Zhd (v1:Value)(x:RecD)(w:World)(hl:x.near.length<=1048576)(hv:ZaA w v1 x.near w.heap.size):
  Calls Tryz.prog 121 #[.iface 174 (.agg (recC x v1))] w fun e w'=>e=.returned (.bool (Za1 x.owner x.near&&x.cost==0 && !x.far))/\Below w.heap.size w w':=by
 obtain⟨p1,c1,rfl⟩:=hv.shape;have HN:=hide (fun W (h:Below w.heap.size w W)=>Zj8 x.owner (.slice p1 x.near.length c1) x.near W hl (hv.then h))
 obtain⟨qn,hqn⟩:∃ q,q=Za1 x.owner x.near:=⟨_,rfl⟩;rw [<-hqn] at HN |-;clear hqn hv;obtain⟨area,kind,owner,key,seq,ns,cost,far⟩:=x;unfold recC;simp only [] at HN hl |-
 have a1:=as1_1;have B0:Below w.heap.size w (w.alloc (.cells #[.int .i64 area,.int .i64 kind,.int .i64 owner,.int .i64 key,.int .i64 seq,.slice p1 ns.length c1,.int .i64 cost,.bool far] 174)):=(Below.refl _ _).alloc (Nat.le_refl _) _;have NEW:=hide (heap_alloc_new w (.cells #[.int .i64 area,.int .i64 kind,.int .i64 owner,.int .i64 key,.int .i64 seq,.slice p1 ns.length c1,.int .i64 cost,.bool far] 174))
 go_enter Tryz.func121,Tryz.ntmps121
 go_wp2_with fail
 refine (HN.out _ B0).mono ?_
 rintro e w1 ⟨rfl,b1⟩;have hx1:w1.heap[w.heap.size]? = some (.cells #[.int .i64 area,.int .i64 kind,.int .i64 owner,.int .i64 key,.int .i64 seq,.slice p1 ns.length c1,.int .i64 cost,.bool far] 174):=by rw [b1.block _ (by simp)];exact NEW.out
 have f6:=Zaa hx1 6;have f7:=Zaa hx1 7;simp at f6 f7
 have B1:=B0.trans (b1.mono B0.size);clear hx1 b1 NEW HN;cases qn
 ·go_wp2
  go_ret
  exact⟨by simp,B1⟩
 by_cases hc:cost=0
 case neg=>
  have hd:(cost==0)=false:=by simpa using hc
  go_wp2
  go_ret
  exact⟨by simp [hd],B1⟩
 subst hc;cases far
 all_goals
  go_wp2
  go_ret
  exact⟨by simp,B1⟩
theorem ZfJ (v1:Value)(x:RecD)(w:World)(hl:x.near.length<=1048576)(hv:ZaA w v1 x.near w.heap.size):
  Calls Tryz.prog 121 #[.iface 175 (.agg (recC x v1))] w fun e w'=>e=.returned (.bool (x.near.length==0&&inB x.cost 0 60000 && !x.far))/\Below w.heap.size w w':=by
 obtain⟨p1,c1,rfl⟩:=hv.shape;clear hv;have H5:=hide (ZaZ x.cost 0 60000);obtain⟨q5,hq5⟩:∃ q,q=inB x.cost 0 60000:=⟨_,rfl⟩;rw [<-hq5] at H5 |-;clear hq5;obtain⟨area,kind,owner,key,seq,ns,cost,far⟩:=x;unfold recC;simp only [] at H5 hl |-
 have a1:=as2_1;have a2:=as2_2;have B0:Below w.heap.size w (w.alloc (.cells #[.int .i64 area,.int .i64 kind,.int .i64 owner,.int .i64 key,.int .i64 seq,.slice p1 ns.length c1,.int .i64 cost,.bool far] 175)):=(Below.refl _ _).alloc (Nat.le_refl _) _;by_cases hn0:ns.length=0
 case neg=>
  have hd:((ns.length:Int)==0)=false:=by simp;intro h;rw [h] at hn0;exact hn0 rfl
  have hd2:(ns.length==0)=false:=by simpa using hn0
  rw [hd2];clear hn0 hd2
  go_enter Tryz.func121,Tryz.ntmps121
  go_wp2
  go_ret
  exact⟨by simp,B0⟩
 have hd:((ns.length:Int)==0)=true:=by simp;exact List.length_eq_zero_iff.1 hn0
 have hd2:(ns.length==0)=true:=by simpa using hn0
 rw [hd2];clear hn0 hd2
 go_enter Tryz.func121,Tryz.ntmps121
 go_wp2_with fail
 refine (H5.out _).mono ?_
 rintro e w1 ⟨rfl,rfl⟩;cases q5
 ·go_wp2
  go_ret
  exact⟨by simp,B0⟩
 cases far
 all_goals
  go_wp2
  go_ret
  exact⟨by simp,B0⟩
theorem ZgB (v1:Value)(x:RecD)(w:World)(hl:x.near.length<=1048576)(hv:ZaA w v1 x.near w.heap.size):
  Calls Tryz.prog 121 #[.iface 176 (.agg (recC x v1))] w fun e w'=>e=.returned (.bool (x.near.length==0&&(inB x.cost 1 1000||x.cost==60000)))/\Below w.heap.size w w':=by
 obtain⟨p1,c1,rfl⟩:=hv.shape;clear hv;have H5:=hide (ZaZ x.cost 1 1000);obtain⟨q5,hq5⟩:∃ q,q=inB x.cost 1 1000:=⟨_,rfl⟩;rw [<-hq5] at H5 |-;clear hq5;obtain⟨area,kind,owner,key,seq,ns,cost,far⟩:=x;unfold recC;simp only [] at H5 hl |-
 have a1:=as3_1;have a2:=as3_2;have a3:=as3_3;have B0:Below w.heap.size w (w.alloc (.cells #[.int .i64 area,.int .i64 kind,.int .i64 owner,.int .i64 key,.int .i64 seq,.slice p1 ns.length c1,.int .i64 cost,.bool far] 176)):=(Below.refl _ _).alloc (Nat.le_refl _) _;by_cases hn0:ns.length=0
 case neg=>
  have hd:((ns.length:Int)==0)=false:=by simp;intro h;rw [h] at hn0;exact hn0 rfl
  have hd2:(ns.length==0)=false:=by simpa using hn0
  rw [hd2];clear hn0 hd2
  go_enter Tryz.func121,Tryz.ntmps121
  go_wp2
  go_ret
  exact⟨by simp,B0⟩
 have hd:((ns.length:Int)==0)=true:=by simp;exact List.length_eq_zero_iff.1 hn0
 have hd2:(ns.length==0)=true:=by simpa using hn0
 rw [hd2];clear hn0 hd2
 go_enter Tryz.func121,Tryz.ntmps121
 go_wp2_with fail
 refine (H5.out _).mono ?_
 rintro e w1 ⟨rfl,rfl⟩;cases q5
 all_goals
  go_wp2
  go_ret
  exact⟨by simp,B0⟩
theorem Zf0 (v1:Value)(x:RecD)(w:World)(hl:x.near.length<=1048576)(hv:ZaA w v1 x.near w.heap.size):
  Calls Tryz.prog 81 #[.agg (recC x v1)] w fun e w'=>e=.returned (.bool (Zas x))/\Below w.heap.size w w':=by
 obtain⟨p1,c1,rfl⟩:=hv.shape;have HK:=hide (Zk9 (.slice p1 x.near.length c1) x);obtain⟨R,hR⟩:∃ R,R=Zas x:=⟨_,rfl⟩;rw [<-hR];unfold Zas at hR;have H1:=hide (ZaZ x.owner 1 6);have H2:=hide (ZaZ x.seq 1 100000);obtain⟨q1,hq1⟩:∃ q,q=inB x.owner 1 6:=⟨_,rfl⟩;obtain⟨q2,hq2⟩:∃ q,q=inB x.seq 1 100000:=⟨_,rfl⟩;rw [<-hq1] at H1 hR;rw [<-hq2] at H2 hR;clear hq1 hq2;have B0:Below w.heap.size w (w.alloc (.cells (recC x (.slice p1 x.near.length c1)) 40)):=(Below.refl _ _).alloc (Nat.le_refl _) _;have hnew:=heap_alloc_new w (.cells (recC x (.slice p1 x.near.length c1)) 40);by_cases hk1:x.kind=1
 ·rw [if_pos hk1] at hR
  have hkv:Zdr x (.slice p1 x.near.length c1)=.tuple #[.iface 174 (.agg (recC x (.slice p1 x.near.length c1))),.bool true]:=by unfold Zdr;rw [if_pos hk1]
  rw [hkv] at HK;have HR:=hide hR;have HV:=hide hv;have NEW:=hide hnew;have HKEY:=hide (Zif (.slice p1 x.near.length c1) x);have HBODY:=hide (fun W (h:Below w.heap.size w W)=>Zhd (.slice p1 x.near.length c1) x W hl (hv.then h))
  obtain⟨q3,hq3⟩:∃ q,q=(inB x.area 0 2&&x.key==0):=⟨_,rfl⟩;obtain⟨q4,hq4⟩:∃ q,q=(Za1 x.owner x.near&&x.cost==0 && !x.far):=⟨_,rfl⟩;rw [<-hq3] at HKEY;rw [<-hq4] at HBODY;have HR2:=hide (show R=(q1&&q2&&q3&&q4) by rw [HR.out,hq3,hq4];simp only [Bool.and_assoc])
  clear hR hkv hv hnew hq3 hq4 HR hk1;unfold recC at *
  go_enter Tryz.func81,Tryz.ntmps81
  go_wp2_with fail
  refine (HK.out _).mono ?_
  rintro e w1 ⟨rfl,b1⟩;have hx1:w1.heap[w.heap.size]? = some (.cells #[.int .i64 x.area,.int .i64 x.kind,.int .i64 x.owner,.int .i64 x.key,.int .i64 x.seq,.slice p1 x.near.length c1,.int .i64 x.cost,.bool x.far] 40):=by rw [b1.block _ (by simp)];exact NEW.out
  have f2:=Zaa hx1 2;have f4:=Zaa hx1 4;simp at f2 f4
  have B1:=B0.trans (b1.mono B0.size);clear hx1 b1
  go_wp2_with fail
  refine (H1.out _).mono ?_
  rintro e w2 ⟨rfl,rfl⟩;cases q1
  ·go_wp2
   go_ret
   exact⟨Zaf (by rw [HR2.out];rfl),B1⟩
  go_wp2_with fail
  refine (H2.out _).mono ?_
  rintro e w2 ⟨rfl,rfl⟩;cases q2
  ·go_wp2
   go_ret
   exact⟨Zaf (by rw [HR2.out];rfl),B1⟩
  go_wp2_with fail
  refine (HKEY.out _).mono ?_
  rintro e w2 ⟨rfl,b2⟩;have B2:=B1.trans (b2.mono B1.size);clear b2;cases q3
  ·go_wp2
   go_ret
   exact⟨Zaf (by rw [HR2.out];rfl),B2⟩
  go_wp2_with fail
  refine (HBODY.out _ B2).mono ?_
  rintro e w3 ⟨rfl,b3⟩;have B3:=B2.trans (b3.mono B2.size);clear b3
  go_wp2
  go_ret
  exact⟨Zaf (by rw [HR2.out];rfl),B3⟩
 rw [if_neg hk1] at hR;by_cases hk2:x.kind=2
 ·rw [if_pos hk2] at hR
  have hkv:Zdr x (.slice p1 x.near.length c1)=.tuple #[.iface 175 (.agg (recC x (.slice p1 x.near.length c1))),.bool true]:=by unfold Zdr;rw [if_neg hk1,if_pos hk2]
  rw [hkv] at HK;have HR:=hide hR;have HV:=hide hv;have NEW:=hide hnew;have HKEY:=hide (ZgA (.slice p1 x.near.length c1) x);have HBODY:=hide (fun W (h:Below w.heap.size w W)=>ZfJ (.slice p1 x.near.length c1) x W hl (hv.then h))
  obtain⟨q3,hq3⟩:∃ q,q=(inB x.area 0 2&&inB x.key 1 6):=⟨_,rfl⟩;obtain⟨q4,hq4⟩:∃ q,q=(x.near.length==0&&inB x.cost 0 60000 && !x.far):=⟨_,rfl⟩;rw [<-hq3] at HKEY;rw [<-hq4] at HBODY;have HR2:=hide (show R=(q1&&q2&&q3&&q4) by rw [HR.out,hq3,hq4];simp only [Bool.and_assoc])
  clear hR hkv hv hnew hq3 hq4 HR hk1 hk2;unfold recC at *
  go_enter Tryz.func81,Tryz.ntmps81
  go_wp2_with fail
  refine (HK.out _).mono ?_
  rintro e w1 ⟨rfl,b1⟩;have hx1:w1.heap[w.heap.size]? = some (.cells #[.int .i64 x.area,.int .i64 x.kind,.int .i64 x.owner,.int .i64 x.key,.int .i64 x.seq,.slice p1 x.near.length c1,.int .i64 x.cost,.bool x.far] 40):=by rw [b1.block _ (by simp)];exact NEW.out
  have f2:=Zaa hx1 2;have f4:=Zaa hx1 4;simp at f2 f4
  have B1:=B0.trans (b1.mono B0.size);clear hx1 b1
  go_wp2_with fail
  refine (H1.out _).mono ?_
  rintro e w2 ⟨rfl,rfl⟩;cases q1
  ·go_wp2
   go_ret
   exact⟨Zaf (by rw [HR2.out];rfl),B1⟩
  go_wp2_with fail
  refine (H2.out _).mono ?_
  rintro e w2 ⟨rfl,rfl⟩;cases q2
  ·go_wp2
   go_ret
   exact⟨Zaf (by rw [HR2.out];rfl),B1⟩
  go_wp2_with fail
  refine (HKEY.out _).mono ?_
  rintro e w2 ⟨rfl,b2⟩;have B2:=B1.trans (b2.mono B1.size);clear b2;cases q3
  ·go_wp2
   go_ret
   exact⟨Zaf (by rw [HR2.out];rfl),B2⟩
  go_wp2_with fail
  refine (HBODY.out _ B2).mono ?_
  rintro e w3 ⟨rfl,b3⟩;have B3:=B2.trans (b3.mono B2.size);clear b3
  go_wp2
  go_ret
  exact⟨Zaf (by rw [HR2.out];rfl),B3⟩
 rw [if_neg hk2] at hR;by_cases hk3:x.kind=3
 ·rw [if_pos hk3] at hR
  have hkv:Zdr x (.slice p1 x.near.length c1)=.tuple #[.iface 176 (.agg (recC x (.slice p1 x.near.length c1))),.bool true]:=by unfold Zdr;rw [if_neg hk1,if_neg hk2,if_pos hk3]
  rw [hkv] at HK;have HR:=hide hR;have HV:=hide hv;have NEW:=hide hnew;have HKEY:=hide (ZhO (.slice p1 x.near.length c1) x);have HBODY:=hide (fun W (h:Below w.heap.size w W)=>ZgB (.slice p1 x.near.length c1) x W hl (hv.then h))
  obtain⟨q3,hq3⟩:∃ q,q=(x.area==9&&inB x.key 1 9):=⟨_,rfl⟩;obtain⟨q4,hq4⟩:∃ q,q=(x.near.length==0&&(inB x.cost 1 1000||x.cost==60000)):=⟨_,rfl⟩;rw [<-hq3] at HKEY;rw [<-hq4] at HBODY;have HR2:=hide (show R=(q1&&q2&&q3&&q4) by rw [HR.out,hq3,hq4];simp only [Bool.and_assoc])
  clear hR hkv hv hnew hq3 hq4 HR hk1 hk2 hk3;unfold recC at *
  go_enter Tryz.func81,Tryz.ntmps81
  go_wp2_with fail
  refine (HK.out _).mono ?_
  rintro e w1 ⟨rfl,b1⟩;have hx1:w1.heap[w.heap.size]? = some (.cells #[.int .i64 x.area,.int .i64 x.kind,.int .i64 x.owner,.int .i64 x.key,.int .i64 x.seq,.slice p1 x.near.length c1,.int .i64 x.cost,.bool x.far] 40):=by rw [b1.block _ (by simp)];exact NEW.out
  have f2:=Zaa hx1 2;have f4:=Zaa hx1 4;simp at f2 f4
  have B1:=B0.trans (b1.mono B0.size);clear hx1 b1
  go_wp2_with fail
  refine (H1.out _).mono ?_
  rintro e w2 ⟨rfl,rfl⟩;cases q1
  ·go_wp2
   go_ret
   exact⟨Zaf (by rw [HR2.out];rfl),B1⟩
  go_wp2_with fail
  refine (H2.out _).mono ?_
  rintro e w2 ⟨rfl,rfl⟩;cases q2
  ·go_wp2
   go_ret
   exact⟨Zaf (by rw [HR2.out];rfl),B1⟩
  go_wp2_with fail
  refine (HKEY.out _).mono ?_
  rintro e w2 ⟨rfl,b2⟩;have B2:=B1.trans (b2.mono B1.size);clear b2;cases q3
  ·go_wp2
   go_ret
   exact⟨Zaf (by rw [HR2.out];rfl),B2⟩
  go_wp2_with fail
  refine (HBODY.out _ B2).mono ?_
  rintro e w3 ⟨rfl,b3⟩;have B3:=B2.trans (b3.mono B2.size);clear b3
  go_wp2
  go_ret
  exact⟨Zaf (by rw [HR2.out];rfl),B3⟩
 rw [if_neg hk3] at hR;have hkv:Zdr x (.slice p1 x.near.length c1)=.tuple #[.nilIface,.bool false]:=by unfold Zdr;rw [if_neg hk1,if_neg hk2,if_neg hk3]
 rw [hkv] at HK;have hR2:R=false:=by rw [hR];simp
 have HR2:=hide hR2;clear hR hkv hv hnew hR2 H1 H2 hk1 hk2 hk3;unfold recC at *
 go_enter Tryz.func81,Tryz.ntmps81
 go_wp2_with fail
 refine (HK.out _).mono ?_
 rintro e w1 ⟨rfl,b1⟩;have B1:=B0.trans (b1.mono B0.size);clear b1
 go_wp2
 go_ret
 exact⟨Zaf HR2.out,B1⟩
theorem Zfo (v:Value)(ps:List RP)(hi:Nat)(w:World)(hv:RecsIn w hi v ps)(hhi:hi<=w.heap.size)(hn:tot ps<=1048576):
  Calls Tryz.prog 65 #[v] w fun e w'=>∃ x qs,e=.returned x/\fsts qs=fsts ps/\RecsOwn w' w.heap.size w'.heap.size x qs/\Below w.heap.size w w':=by
 have hnl:=Za3 ps;obtain⟨a1,c1,rfl⟩:=Zac hv.row;have HV:=hide hv;clear hv;obtain⟨i0,hi0,hz0,hz1,hz2⟩:=info_parts Tryz.infoRec;have HI:=hide hi0;have HZ:=hide hz0;clear hi0 hz0
 go_enter Tryz.func65,Tryz.ntmps65
 go_wp2_with (first
  | (refine wpList_make_own _ rfl _ _ 64 rfl w.heap.size 40 i0 (.agg (recC Zbe (.slice none 0 0))) 8 Tryz.underlying64 HI.out HZ.out hz1 .i64 .i64 (ps.length:Int) ps.length rfl rfl rfl (by rw [hz2];omega) (by unfold maxLen;omega) (Nat.le_refl _) ?_))
 intro w0 ho0 hg0;have B0:Below w.heap.size w w0:=(Below.refl _ _).grown hg0 (Nat.le_refl _) (fun k hk=>by simp at hk)
 have R0:=hide (show RecsOwn w0 w.heap.size w0.heap.size (.slice (some ⟨w.heap.size,0,none⟩) 0 ps.length) [] from ⟨by simpa [flat] using ho0,fun k hk=>(ho0.lt k hk).2,by simp,by simp⟩)
 clear ho0 hg0
 go_wp2
 go_loopw [11,3] (fun i o wr=>∃ (k:Nat) (qs:List RP) (u:Value),k<=ps.length/\i=.int .i64 k/\o=u/\fsts qs=fsts (ps.take k)/\RecsOwn wr w.heap.size wr.heap.size u qs/\Below w.heap.size w wr) (fun i _ _=>ps.length-(intOf i).toNat)
 case atStart=>exact ⟨0,[],_,by omega,rfl,rfl,by simp [fsts],R0.out,B0⟩
 case round=>
  obtain⟨k,qs,u,hk,rfl,rfl,hmap,hown,hnx⟩:=hrel;obtain⟨ua,uc,rfl⟩:=Zac hown.row;have hsz:=hnx.size;by_cases hlt:k<ps.length
  ·obtain ⟨p,hp⟩:∃ p,ps[k]? = some p:=⟨ps[k],List.getElem?_eq_getElem hlt⟩
   have hat:=HV.out.at;obtain⟨b,off,cap',hve,hbb,c0,c1,c2,c3,c4,c5,c6,c7,_⟩:=hat.cells k p hp;cases hve
   rw [<-hnx.cell (p:=⟨b,off+k*8,none⟩) (Nat.lt_of_lt_of_le hbb hhi)] at c0;rw [<-hnx.cell (p:=⟨b,off+k*8+1,none⟩) (Nat.lt_of_lt_of_le hbb hhi)] at c1;rw [<-hnx.cell (p:=⟨b,off+k*8+2,none⟩) (Nat.lt_of_lt_of_le hbb hhi)] at c2;rw [<-hnx.cell (p:=⟨b,off+k*8+3,none⟩) (Nat.lt_of_lt_of_le hbb hhi)] at c3;rw [<-hnx.cell (p:=⟨b,off+k*8+4,none⟩) (Nat.lt_of_lt_of_le hbb hhi)] at c4;rw [<-hnx.cell (p:=⟨b,off+k*8+5,none⟩) (Nat.lt_of_lt_of_le hbb hhi)] at c5;rw [<-hnx.cell (p:=⟨b,off+k*8+6,none⟩) (Nat.lt_of_lt_of_le hbb hhi)] at c6;rw [<-hnx.cell (p:=⟨b,off+k*8+7,none⟩) (Nat.lt_of_lt_of_le hbb hhi)] at c7;have hno:=(HV.out.nears p (List.mem_of_getElem? hp)).keep (W':=wr) (fun j _ h2 _=>hnx.block j (by omega))
   obtain⟨pa,pc,hpn⟩:=Zac hno.1;have HC:=fun o=>Zf6 p.1 p.2 0 (wr.alloc o) (hno.1.alloc o) (by have:=Zc6 (List.mem_of_getElem? hp);omega)
   unfold recC at HC;rw [hpn] at c5 HC;have HCP:=hide HC;have HP:=hide hp;have HM:=hide hmap;have OW:=hide hown;have HQL:=hide (show qs.length<=1048576 by
    have h1:=congrArg List.length hmap;simp [fsts] at h1
    omega)
   clear hp hmap hown hno hpn HC hat;have hki:(0:Int)<=(k:Int):=by omega
   have hkj:(k:Int)<(ps.length:Int):=by omega
   go_wp2_with fail
   refine (HCP.out _).mono ?_
   rintro e w2 ⟨v1,rfl,hn2',b2'⟩;obtain⟨n1a,n1c,rfl⟩:=Zac hn2';have hn2:=Zal (b0:=wr.heap.size) hn2' (by simp)
   have b2:Below wr.heap.size wr w2:=((Below.refl _ _).alloc (Nat.le_refl _) _).trans (b2'.mono (by simp))
   clear hn2' b2';have b2s:=b2.size
   go_wp2_with (first
    | (at_builtin;refine ZaN ZaK (by omega) (by omega) _ rfl _ _ 64 rfl w.heap.size 40 Tryz.underlying64 (.agg (recC Zbe (.slice none 0 0))) rfl Tryz.infoRec _ qs (p.1,.slice n1a p.1.near.length n1c) (Zbm _ _ _ _) rfl ((Zah OW.out.row b2 (Nat.le_refl _)).alloc _) ⟨w2.heap.size,0,none⟩ 1 rfl (Zar (cs:=encP (p.1,.slice n1a p.1.near.length n1c))) (by have:=HQL.out;omega) (by simp;omega) ?_))
   intro v' w4 hown' hgrow;have ow4:=OW.out.push (p:=(p.1,.slice n1a p.1.near.length n1c)) (b2.alloc b2.size _) (by omega) (Zat.wide (Zat.keep ⟨hn2,fun k hk=>(hn2.lt k hk).2⟩ (fun j _ _ h3=>Below.heap_alloc _ _ _ h3)) (Nat.le_refl _) (by simp)) hown' hgrow
   obtain⟨va,vc,rfl⟩:=Zac hown';have B4:Below w.heap.size w w4:=((hnx.trans (b2.mono hsz)).alloc (by omega) _).grown hgrow (by simp;omega) (fun k hk=>(OW.out.row.lt k hk).1)
   have OW4:=hide ow4;clear ow4 hown' hgrow hn2
   go_wp2
   go_roundw
   case rel=>exact ⟨k+1,qs++[(p.1,.slice n1a p.1.near.length n1c)],_,by omega,by go_num,rfl,by rw [show fsts (ps.take (k+1))=fsts (ps.take k)++[p.1] from ZeQ HP.out, <-HM.out];simp [fsts],OW4.out,B4⟩
   case measure=>simp [intOf];omega
  ·have hkn:k=ps.length:=by omega
   have KN:=hide hkn;have OW:=hide hown;have HM:=hide hmap;clear hkn hown hmap
   go_wp2
   go_ret
   have h1:=HM.out;rw [KN.out,List.take_length] at h1
   first
    | exact ⟨_,qs,rfl,h1,OW.out,hnx⟩
    | exact ⟨_,rfl,qs,h1,OW.out,hnx⟩
theorem ZkE (v:Value)(ps:List RP)(hi:Nat)(r:RP)(w:World)(hv:RecsIn w hi v ps)(hhi:hi<=w.heap.size)(hn:tot ps<=1048576)(hr:Zat w 0 hi r)(hrl:r.1.near.length<=1048576):
  Calls Tryz.prog 66 #[v,.agg (recC r.1 r.2)] w fun e w'=>e=.returned (.bool (ZaE (fsts ps) r.1))/\Below w.heap.size w w':=by
 obtain⟨TT,hTT⟩:∃ T,T=ZaE (fsts ps) r.1:=⟨_,rfl⟩;rw [<-hTT];have HT0:=hide hTT;clear hTT;have hnl:=Za3 ps;have hfl:(fsts ps).length=ps.length:=by simp [fsts]
 obtain⟨a1,c1,rfl⟩:=Zac hv.row;obtain⟨ra,rc,hrn⟩:=Zac hr.1;have BX:Below w.heap.size w (w.alloc (.cells #[.int .i64 r.1.area,.int .i64 r.1.kind,.int .i64 r.1.owner,.int .i64 r.1.key,.int .i64 r.1.seq,.slice ra r.1.near.length rc,.int .i64 r.1.cost,.bool r.1.far] 40)):=(Below.refl _ _).alloc (Nat.le_refl _) _;have hx:=heap_alloc_new w (.cells #[.int .i64 r.1.area,.int .i64 r.1.kind,.int .i64 r.1.owner,.int .i64 r.1.key,.int .i64 r.1.seq,.slice ra r.1.near.length rc,.int .i64 r.1.cost,.bool r.1.far] 40);obtain⟨w0,hw0⟩:∃ w0,w0=w.alloc (.cells #[.int .i64 r.1.area,.int .i64 r.1.kind,.int .i64 r.1.owner,.int .i64 r.1.key,.int .i64 r.1.seq,.slice ra r.1.near.length rc,.int .i64 r.1.cost,.bool r.1.far] 40):=⟨_,rfl⟩;rw [<-hw0] at BX hx;have hsx:=Zab hx;have HOK:=hide (Zf0 r.2 r.1 w0 hrl (ZaT.then (Zaq hr.1) BX));have HAT:=hide (fun W (hb:Below w.heap.size w W)=>Zjv (.slice a1 ps.length c1) ps hi r.1 W (hv.below hb hhi) (by have:=hb.size;omega) hn)
 have HKEY:=hide (fun W=>Zfb r.1.area r.1.kind r.1.owner r.1.key r.1.seq (.slice ra r.1.near.length rc) r.1.cost r.1.far W)
 have HV:=hide hv;unfold keyV at HAT;unfold recC at *;rw [hrn] at HOK |-;clear hv hr hrn;by_cases hok:Zas r.1=false
 ·rw [hok] at HOK
  have HF:=hide (HT0.out.trans (ZhM (xs:=fsts ps) hok));clear hok
  go_enter Tryz.func66,Tryz.ntmps66
  go_wp2_with fail
  rw [<-hw0];refine HOK.out.mono ?_
  rintro e w1 ⟨rfl,b1⟩
  go_wp2
  go_ret
  exact⟨Zaf HF.out,BX.trans (b1.mono BX.size)⟩
 have hok:Zas r.1=true:=by cases h:Zas r.1 with | true=>rfl | false=>exact absurd h hok
 rw [hok] at HOK
 rcases ZbP (fsts ps) r.1 with hz | ⟨j,y,hz,hy,_⟩
 ·rw [hz] at HAT
  rw [show plV (-1)=.tuple #[.int .i64 0,.bool false] from rfl] at HAT
  have ht:=ZcP hok hz;rw [hfl] at ht;have HF:=hide (HT0.out.trans ht);clear ht hz hfl hok
  go_enter Tryz.func66,Tryz.ntmps66
  go_wp2_with fail
  rw [<-hw0];clear hw0;refine HOK.out.mono ?_
  rintro e w1 ⟨rfl,b1⟩;have b1s:=b1.size;have BW1:Below w.heap.size w w1:=BX.trans (b1.mono BX.size);have hx1:=(b1.block _ hsx).trans hx;have d0:=Zaa hx1 0;have d1:=Zaa hx1 1;have d2:=Zaa hx1 2;have d3:=Zaa hx1 3;have d4:=Zaa hx1 4;have d5:=Zaa hx1 5;have d6:=Zaa hx1 6;have d7:=Zaa hx1 7;simp at d0 d1 d2 d3 d4 d5 d6 d7
  clear b1 hx
  go_wp2_with fail
  refine (HKEY.out _).mono ?_
  rintro e w2 ⟨rfl,b2⟩;have BW2:Below w.heap.size w w2:=BW1.trans (b2.mono BW1.size);have hx2:=(b2.block _ (Zab hx1)).trans hx1;clear b2 hx1 d0 d1 d2 d3 d4 d5 d6 d7
  go_wp2_with fail
  refine (HAT.out _ BW2).mono ?_
  rintro e w3 ⟨rfl,b3⟩;have BW3:Below w.heap.size w w3:=BW2.trans (b3.mono BW2.size);have hx3:=(b3.block _ (Zab hx2)).trans hx2;clear b3 hx2 BW1
  go_wp2
  go_ret
  exact⟨Zaf (by rw [HF.out];exact decide_eq_decide.2 (by omega)),BW3⟩
 ·rw [hz] at HAT
  rw [show plV (j:Int)=.tuple #[.int .i64 (j:Int),.bool true] from by unfold plV;rw [if_neg (by omega)]] at HAT
  have ht:=Zeb hok hz hy;have HF:=hide (HT0.out.trans ht);obtain⟨t,htj,hty⟩:=ZfX hy;have hjl:j<ps.length:=(List.getElem?_eq_some_iff.1 htj).1;have hji:(0:Int)<=(j:Int):=by omega
  have hjj:(j:Int)<(ps.length:Int):=by omega
  obtain⟨b,off,cp,hve,hbb,_,_,_,_,e4,_,_,_,_⟩:=HV.out.at.cells j t htj;cases hve
  rw [hty] at e4;have hbw:b<w.heap.size:=by omega
  clear hz hy htj hty hfl hok ht
  go_enter Tryz.func66,Tryz.ntmps66
  go_wp2_with fail
  rw [<-hw0];clear hw0;refine HOK.out.mono ?_
  rintro e w1 ⟨rfl,b1⟩;have b1s:=b1.size;have BW1:Below w.heap.size w w1:=BX.trans (b1.mono BX.size);have hx1:=(b1.block _ hsx).trans hx;have d0:=Zaa hx1 0;have d1:=Zaa hx1 1;have d2:=Zaa hx1 2;have d3:=Zaa hx1 3;have d4:=Zaa hx1 4;have d5:=Zaa hx1 5;have d6:=Zaa hx1 6;have d7:=Zaa hx1 7;simp at d0 d1 d2 d3 d4 d5 d6 d7
  clear b1 hx
  go_wp2_with fail
  refine (HKEY.out _).mono ?_
  rintro e w2 ⟨rfl,b2⟩;have BW2:Below w.heap.size w w2:=BW1.trans (b2.mono BW1.size);have hx2:=(b2.block _ (Zab hx1)).trans hx1;clear b2 hx1 d0 d1 d2 d3 d4 d5 d6 d7
  go_wp2_with fail
  refine (HAT.out _ BW2).mono ?_
  rintro e w3 ⟨rfl,b3⟩;have BW3:Below w.heap.size w w3:=BW2.trans (b3.mono BW2.size);have hx3:=(b3.block _ (Zab hx2)).trans hx2;clear b3 hx2 BW1;rw [<-BW3.cell (p:=⟨b,off+j*8+4,none⟩) hbw] at e4;have d4:=Zaa hx3 4;simp at d4
  go_wp2
  go_quiet (fail)
  go_wp2
  go_ret
  exact⟨Zaf (by rw [HF.out]),BW3.trans ⟨rfl,rfl,rfl,Nat.le_refl _,fun _ _=>rfl⟩⟩
end Go.Proofs.YtcimbiinljcifaaGreat
