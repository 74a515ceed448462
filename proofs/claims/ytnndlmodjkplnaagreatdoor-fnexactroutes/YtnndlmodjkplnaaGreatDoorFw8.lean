/-
  IBefM IKind NearOk INear
-/
import Derived.Test.YtnndlmodjkplnaaGreatDoorFw7
import Derived.Test.YtnndlmodjkplnaaGreatDoorFw2
import Derived.Test.YtnndlmodjkplnaaGreatDoorFw5
namespace Go.Proofs.YtnndlmodjkplnaaGreatDoor
open Go.RowKit
set_option linter.unusedSimpArgs false
set_option linter.unusedVariables false
set_option maxRecDepth 100000
set_option maxHeartbeats 8000000
def cmpK (a b c d:Int):Int:=if a=0 then (if b=0 then (if c=0 then d else c) else b) else a
theorem Zox (x y:RecD):decide (cmpK (cmpN x.area y.area) (cmpN x.kind y.kind) (cmpN x.owner y.owner) (cmpN x.key y.key)<0)=Ze6 x y:=by
 unfold cmpK Ze6;by_cases h1:x.area=y.area
 ·rw [if_pos (Zcp.2 h1)]
  by_cases h2:x.kind=y.kind
  ·rw [if_pos (Zcp.2 h2)]
   by_cases h3:x.owner=y.owner
   ·rw [if_pos (Zcp.2 h3)]
    simp [Zdp,h1,h2,h3]
   ·rw [if_neg (fun h=>h3 (Zcp.1 h))]
    simp [Zdp,h1,h2,h3]
  ·rw [if_neg (fun h=>h2 (Zcp.1 h))]
   simp [Zdp,h1,h2]
 ·rw [if_neg (fun h=>h1 (Zcp.1 h))]
  simp [Zdp,h1]
theorem Zjk (p q:Nat)(a b c d a' b' c' d':Int)(w:World)(h:Zd5 w p a b c d)(h':Zd5 w q a' b' c' d'):
  Calls Tryz.prog 207 #[.slice (some ⟨p,0,none⟩) 4 4,.slice (some ⟨q,0,none⟩) 4 4] w fun e w'=>e=.returned (.int .i64 (cmpK (cmpN a a') (cmpN b b') (cmpN c c') (cmpN d d')))/\w=w':=by
 obtain⟨⟨h0,h1,h2,h3⟩,_⟩:=h;obtain⟨⟨g0,g1,g2,g3⟩,_⟩:=h';have C0:=hide (Za5 a a');have C1:=hide (Za5 b b');have C2:=hide (Za5 c c');have C3:=hide (Za5 d d');generalize cmpN a a'=k0 at C0 |-;generalize cmpN b b'=k1 at C1 |-;generalize cmpN c c'=k2 at C2 |-;generalize cmpN d d'=k3 at C3 |-
 go_enter Tryz.func207,Tryz.ntmps207
 go_wp2
 refine wp_loop_rounds 5 ?_
 rw [rounds_succ]
 go_wp2_with fail
 refine (C0.out _).mono ?_
 rintro e w1 ⟨rfl,rfl⟩;by_cases z0:k0=0
 case neg=>
  have hd:(k0 != 0)=true:=by simpa using z0
  have E0:=hide (show cmpK k0 k1 k2 k3=k0 by unfold cmpK;rw [if_neg z0])
  clear z0
  go_wp2
  go_ret
  exact⟨Zjh E0.out,rfl⟩
 subst z0
 go_wp2
 rw [rounds_succ]
 go_wp2_with fail
 refine (C1.out _).mono ?_
 rintro e w1 ⟨rfl,rfl⟩;by_cases z1:k1=0
 case neg=>
  have hd:(k1 != 0)=true:=by simpa using z1
  have E0:=hide (show cmpK 0 k1 k2 k3=k1 by unfold cmpK;rw [if_pos rfl,if_neg z1])
  clear z1
  go_wp2
  go_ret
  exact⟨Zjh E0.out,rfl⟩
 subst z1
 go_wp2
 rw [rounds_succ]
 go_wp2_with fail
 refine (C2.out _).mono ?_
 rintro e w1 ⟨rfl,rfl⟩;by_cases z2:k2=0
 case neg=>
  have hd:(k2 != 0)=true:=by simpa using z2
  have E0:=hide (show cmpK 0 0 k2 k3=k2 by unfold cmpK;rw [if_pos rfl,if_pos rfl,if_neg z2])
  clear z2
  go_wp2
  go_ret
  exact⟨Zjh E0.out,rfl⟩
 subst z2
 go_wp2
 rw [rounds_succ]
 go_wp2_with fail
 refine (C3.out _).mono ?_
 rintro e w1 ⟨rfl,rfl⟩;by_cases z3:k3=0
 case neg=>
  have hd:(k3 != 0)=true:=by simpa using z3
  have E0:=hide (show cmpK 0 0 0 k3=k3 by unfold cmpK;rfl)
  clear z3
  go_wp2
  go_ret
  exact⟨Zjh E0.out,rfl⟩
 subst z3
 go_wp2
 rw [rounds_succ]
 go_wp2
 go_ret
 exact⟨Zjh rfl,rfl⟩
theorem Zh7 (a b c d a' b' c' d':Int)(w:World):Calls Tryz.prog 188 #[.agg #[.int .i64 a,.int .i64 b,.int .i64 c,.int .i64 d],.agg #[.int .i64 a',.int .i64 b',.int .i64 c',.int .i64 d']] w fun e w'=>e=.returned (.int .i64 (cmpK (cmpN a a') (cmpN b b') (cmpN c c') (cmpN d d')))/\Below w.heap.size w w':=by
 obtain⟨r,hr⟩:∃ r,r=cmpK (cmpN a a') (cmpN b b') (cmpN c c') (cmpN d d'):=⟨_,rfl⟩;obtain⟨w1,hw1⟩:∃ w1,w1=(w.alloc (.cells #[.int .i64 a,.int .i64 b,.int .i64 c,.int .i64 d] 263)).alloc (.cells #[.int .i64 a',.int .i64 b',.int .i64 c',.int .i64 d'] 263):=⟨_,rfl⟩;have B1:Below w.heap.size w w1:=by rw [hw1];exact Zan _ _
 have p0:w1.heap[w.heap.size]? = some (.cells #[.int .i64 a,.int .i64 b,.int .i64 c,.int .i64 d] 263):=by rw [hw1,Below.heap_alloc _ _ _ (by simp),heap_alloc_new]
 have q0:w1.heap[w.heap.size+1]? = some (.cells #[.int .i64 a',.int .i64 b',.int .i64 c',.int .i64 d'] 263):=by
  rw [hw1];have:=heap_alloc_new (w.alloc (.cells #[.int .i64 a,.int .i64 b,.int .i64 c,.int .i64 d] 263)) (.cells #[.int .i64 a',.int .i64 b',.int .i64 c',.int .i64 d'] 263)
  simpa using this
 have kp:Zd5 w1 w.heap.size a b c d:=⟨⟨Zaa p0 0,Zaa p0 1,Zaa p0 2,Zaa p0 3⟩,Zae p0 0,Zae p0 1,Zae p0 2,Zae p0 3⟩;have kq:Zd5 w1 (w.heap.size+1) a' b' c' d':=⟨⟨Zaa q0 0,Zaa q0 1,Zaa q0 2,Zaa q0 3⟩,Zae q0 0,Zae q0 1,Zae q0 2,Zae q0 3⟩;have HC:=hide (fun W' (h:w1.heap=W'.heap)=>Zjk w.heap.size (w.heap.size+1) a b c d a' b' c' d' W' (kp.same h) (kq.same h))
 rw [<-hr] at HC |-;clear kp kq p0 q0 hr
 go_enter Tryz.func188,Tryz.ntmps188
 go_wp2
 rw [<-hw1];clear hw1
 go_region_held3 (fun W'=>w1.heap=W'.heap) (first | rfl | assumption | go_keep) (first | (go_at_call 207;refine (HC.out _ ?_).mono ?_;(first | rfl | assumption);rintro e w3 ⟨rfl,rfl⟩))
 go_wp2
 go_ret
 exact⟨rfl,B1.drew⟩
def Zd6 (x:RecD)(v1:Value):Value:=
 if x.kind=1 then .tuple #[.iface 257 (.agg (recC x v1)),.bool true]
 else if x.kind=2 then .tuple #[.iface 258 (.agg (recC x v1)),.bool true]
 else if x.kind=3 then .tuple #[.iface 259 (.agg (recC x v1)),.bool true]
 else .tuple #[.nilIface,.bool false]
theorem ZoL (v1:Value)(x:RecD)(w:World):
  Calls Tryz.prog 164 #[.agg (recC x v1)] w fun e w'=>e=.returned (Zd6 x v1)/\Below w.heap.size w w':=by
 have hV:Zd6 x v1=Zd6 x v1:=rfl;obtain⟨area,kind,owner,key,seq,ns,cost,far⟩:=x;by_cases hk1:kind=1
 ·subst hk1
  have e:Zd6 ⟨area,1,owner,key,seq,ns,cost,far⟩ v1=.tuple #[.iface 257 (.agg (recC ⟨area,1,owner,key,seq,ns,cost,far⟩ v1)),.bool true]:=rfl;rw [e];unfold recC;simp only []
  clear e hV
  go_enter Tryz.func164,Tryz.ntmps164
  go_wp2
  go_ret2
  exact⟨rfl,(Below.refl _ _).alloc (Nat.le_refl _) _⟩
 have k1:(kind==1)=false:=by simpa using hk1
 by_cases hk2:kind=2
 ·subst hk2
  have e:Zd6 ⟨area,2,owner,key,seq,ns,cost,far⟩ v1=.tuple #[.iface 258 (.agg (recC ⟨area,2,owner,key,seq,ns,cost,far⟩ v1)),.bool true]:=rfl;rw [e];unfold recC;simp only []
  clear e hV k1 hk1
  go_enter Tryz.func164,Tryz.ntmps164
  go_wp2
  go_ret2
  exact⟨rfl,(Below.refl _ _).alloc (Nat.le_refl _) _⟩
 have k2:(kind==2)=false:=by simpa using hk2
 by_cases hk3:kind=3
 ·subst hk3
  have e:Zd6 ⟨area,3,owner,key,seq,ns,cost,far⟩ v1=.tuple #[.iface 259 (.agg (recC ⟨area,3,owner,key,seq,ns,cost,far⟩ v1)),.bool true]:=rfl;rw [e];unfold recC;simp only []
  clear e hV k1 hk1 k2 hk2
  go_enter Tryz.func164,Tryz.ntmps164
  go_wp2
  go_ret2
  exact⟨rfl,(Below.refl _ _).alloc (Nat.le_refl _) _⟩
 have k3:(kind==3)=false:=by simpa using hk3
 have e:Zd6 ⟨area,kind,owner,key,seq,ns,cost,far⟩ v1=.tuple #[.nilIface,.bool false]:=by unfold Zd6;rw [if_neg hk1,if_neg hk2,if_neg hk3]
 rw [e];unfold recC;simp only []
 clear e hV hk1 hk2 hk3
 go_enter Tryz.func164,Tryz.ntmps164
 go_wp2
 go_ret2
 exact⟨rfl,(Below.refl _ _).alloc (Nat.le_refl _) _⟩
theorem Zkk (v1:Value)(x:RecD)(w:World):
  Calls Tryz.prog 269 #[.agg (recC x v1)] w fun e w'=>e=.returned (.bool (inB x.area 0 2&&x.key==0))/\Below w.heap.size w w':=by
 obtain⟨area,kind,owner,key,seq,ns,cost,far⟩:=x;unfold recC;simp only []
 have H1:=hide (Za1 area 0 2);obtain⟨q1,hq1⟩:∃ q,q=inB area 0 2:=⟨_,rfl⟩;rw [<-hq1] at H1 |-;clear hq1
 go_enter Tryz.func269,Tryz.ntmps269
 go_wp2_with fail
 refine (H1.out _).mono ?_
 rintro e w1 ⟨rfl,rfl⟩;cases q1
 ·go_wp2
  go_ret
  exact⟨by simp,(Below.refl _ _).alloc (Nat.le_refl _) _⟩
 ·go_wp2
  go_ret
  exact⟨by simp,(Below.refl _ _).alloc (Nat.le_refl _) _⟩
theorem ZhH (v1:Value)(x:RecD)(w:World):
  Calls Tryz.prog 270 #[.agg (recC x v1)] w fun e w'=>e=.returned (.bool (inB x.area 0 2&&inB x.key 1 6))/\Below w.heap.size w w':=by
 obtain⟨area,kind,owner,key,seq,ns,cost,far⟩:=x;unfold recC;simp only []
 have H1:=hide (Za1 area 0 2);have H2:=hide (Za1 key 1 6);obtain⟨q1,hq1⟩:∃ q,q=inB area 0 2:=⟨_,rfl⟩;obtain⟨q2,hq2⟩:∃ q,q=inB key 1 6:=⟨_,rfl⟩;rw [<-hq1] at H1 |-;rw [<-hq2] at H2 |-;clear hq1 hq2
 go_enter Tryz.func270,Tryz.ntmps270
 go_wp2_with fail
 refine (H1.out _).mono ?_
 rintro e w1 ⟨rfl,rfl⟩;cases q1
 ·go_wp2
  go_ret
  exact⟨by simp,(Below.refl _ _).alloc (Nat.le_refl _) _⟩
 ·go_wp2_with fail
  refine (H2.out _).mono ?_
  rintro e w1 ⟨rfl,rfl⟩
  go_wp2
  go_ret
  exact⟨by simp,(Below.refl _ _).alloc (Nat.le_refl _) _⟩
theorem Zjt (v1:Value)(x:RecD)(w:World):
  Calls Tryz.prog 271 #[.agg (recC x v1)] w fun e w'=>e=.returned (.bool (x.area==9&&inB x.key 1 9))/\Below w.heap.size w w':=by
 obtain⟨area,kind,owner,key,seq,ns,cost,far⟩:=x;unfold recC;simp only []
 have H2:=hide (Za1 key 1 9);obtain⟨q2,hq2⟩:∃ q,q=inB key 1 9:=⟨_,rfl⟩;rw [<-hq2] at H2 |-;clear hq2;by_cases ha:area=9
 ·subst ha
  go_enter Tryz.func271,Tryz.ntmps271
  go_wp2_with fail
  refine (H2.out _).mono ?_
  rintro e w1 ⟨rfl,rfl⟩
  go_wp2
  go_ret
  exact⟨by simp,(Below.refl _ _).alloc (Nat.le_refl _) _⟩
 ·have hd:(area==9)=false:=by simpa using ha
  go_enter Tryz.func271,Tryz.ntmps271
  go_wp2
  go_ret
  exact⟨by simp [hd],(Below.refl _ _).alloc (Nat.le_refl _) _⟩
def Zcu (owner:Int)(l:Nr):Bool:=inB l.to 1 6 && !(l.to==owner)&&inB l.c 1 1000
def ordN (p l:Nr):Int:=p.to-l.to
def Zbp (owner:Int)(ns:List Nr):Bool:=ZbO (Zcu owner) ns&&ascB ordN ns
theorem ZnZ (v1:Value)(x:RecD)(w:World)(hl:x.near.length<=1048576)(hv:ZaB w v1 x.near w.heap.size):
  Calls Tryz.prog 119 #[.agg (recC x v1)] w fun e w'=>e=.returned (.bool (Zbp x.owner x.near))/\Below w.heap.size w w':=by
 obtain⟨a1,c1,rfl⟩:=hv.shape;have HV:=hide hv;clear hv;unfold recC
 go_enter Tryz.func119,Tryz.ntmps119
 go_wp2
 go_loopw [3] (fun i wr=>∃ k:Nat,k<=x.near.length/\i=.int .i64 k/\(∀ j,j<k->okAt (Zcu x.owner) x.near j=true)/\(∀ j,j<k->ZbP ordN x.near j=true)/\Below w.heap.size w wr/\wr.heap[w.heap.size]? = some (.cells #[.int .i64 x.area,.int .i64 x.kind,.int .i64 x.owner,.int .i64 x.key,.int .i64 x.seq,.slice a1 x.near.length c1,.int .i64 x.cost,.bool x.far] 128)) (fun i _=>x.near.length-(intOf i).toNat)
 case atStart=>exact ⟨0,by omega,rfl,by omega,by omega,(Below.refl _ _).alloc (Nat.le_refl _) _,heap_alloc_new w _⟩
 case round=>
  obtain⟨k,hk,rfl,hall,hasc,hnx,hx⟩:=hrel;have hxl:=Zab hx;have g5:=Zaa hx 5;simp at g5
  have HALL:=hide hall;have HASC:=hide hasc;have HX:=hide hx;clear hall hasc hx;by_cases hlt:k<x.near.length
  ·obtain ⟨l,hl⟩:∃ l,x.near[k]? = some l:=⟨x.near[k],List.getElem?_eq_getElem hlt⟩
   obtain⟨b,off,cap',hve,hbb,s0,s1⟩:=HV.out.cells k l hl;cases hve
   rw [<-hnx.cell (p:=⟨b,off+k*2,none⟩) hbb] at s0;rw [<-hnx.cell (p:=⟨b,off+k*2+1,none⟩) hbb] at s1;have hzr:=hnx.size;have hbr:b<wr.heap.size:=by omega
   have hki:(0:Int)<=(k:Int):=by omega
   have hkj:(k:Int)<(x.near.length:Int):=by omega
   obtain⟨qt,hqt⟩:∃ q,q=inB l.to 1 6:=⟨_,rfl⟩;obtain⟨qc,hqc⟩:∃ q,q=inB l.c 1 1000:=⟨_,rfl⟩;have hok:Zcu x.owner l=(qt && !(l.to==x.owner)&&qc):=by unfold Zcu;rw [hqt,hqc]
   have HIT:=hide (ZbC l.to 1 6);have HIC:=hide (ZbC l.c 1 1000);rw [<-hqt] at HIT;rw [<-hqc] at HIC;have HAT1:=hide ((Zb2 (ok:=Zcu x.owner) hl).trans hok);have HL:=hide hl;clear hqt hqc hok hl;obtain⟨wq,hwq⟩:∃ wq:World,wq=wr.alloc (.cells #[.int .i64 l.to,.int .i64 l.c] 225):=⟨_,rfl⟩;have BW:Below w.heap.size w wq:=by rw [hwq];exact hnx.alloc hnx.size _
   have hb0:wq.heap[wr.heap.size]? = some (.cells #[.int .i64 l.to,.int .i64 l.c] 225):=by rw [hwq];exact heap_alloc_new wr _
   have hx9:wq.heap[w.heap.size]? = some (.cells #[.int .i64 x.area,.int .i64 x.kind,.int .i64 x.owner,.int .i64 x.key,.int .i64 x.seq,.slice (some ⟨b,off,none⟩) x.near.length c1,.int .i64 x.cost,.bool x.far] 128):=by rw [hwq,Below.heap_alloc _ _ _ hxl];exact HX.out
   go_wp2
   rw [<-hwq];have g2:=Zaa hx9 2;have g5:=Zaa hx9 5;have e0:=Zaa hb0 0;have e1:=Zaa hb0 1;simp at g2 g5 e0 e1
   have HX9:=hide hx9;obtain⟨z,hz⟩:∃ z,z=wr.heap.size:=⟨_,rfl⟩;rw [<-hz] at e0 e1 |-;clear hb0 hx9 hwq hz s0 s1;cases qt
   ·have hf:Zbp x.owner x.near=false:=by unfold Zbp ZbO;rw [ZaH hlt (HAT1.out.trans (by simp))];rfl
    have HF:=hide hf;clear hf;refine Zam (S:=(fun W=>W.cell? ⟨w.heap.size,2,none⟩=some (.int .i64 x.owner)/\W.cell? ⟨w.heap.size,5,none⟩=some (.slice (some ⟨b,off,none⟩) x.near.length c1)/\W.cell? ⟨z,0,none⟩=some (.int .i64 l.to)/\W.cell? ⟨z,1,none⟩=some (.int .i64 l.c))) (by kernel_rfl) 33 rfl ⟨g2,g5,e0,e1⟩ (fun ops hops hHeld=>?_)
    iterate 2
     refine Zar 33 ?_ ?_ ?_ (by rw [hops.out];kernel_rfl) ?_ ?_ (by assumption) ?_
     rotate_left 2
     ·rw [hops.out];simp only [getS,Nat.reduceSub,Nat.reduceAdd];rfl
     ·intro W hW;(try dsimp only at hW);go_simp <;> with_reducible rfl
     ·exact fun _ _ _=>id
     try simp only [putS]
    refine Zao 2 (oi:=?_) ?_ (by rw [hops.out];kernel_rfl) ?_ ?_
    rotate_left 1
    ·rw [hops.out];simp only [getS];rfl
    ·rw [hops.out];kernel_rfl
    intro K hK
    go_simp
    refine (HIT.out _).mono ?_
    rintro e w1 ⟨rfl,rfl⟩;refine hK.out _ _ hHeld (fun _=>?_)
    clear hK K
    try simp only [putS]
    iterate 2
     refine Zar 33 ?_ ?_ ?_ (by rw [hops.out];kernel_rfl) ?_ ?_ (by assumption) ?_
     rotate_left 2
     ·rw [hops.out];simp only [getS,Nat.reduceSub,Nat.reduceAdd];rfl
     ·intro W hW;(try dsimp only at hW);go_simp <;> with_reducible rfl
     ·exact fun _ _ _=>id
     try simp only [putS]
    refine Zad 5 22 (by rw [hops.out];kernel_rfl) (fun _ _ _ h=>h) (by assumption) ?_
    try simp only [putS]
    refine Zad 6 23 (by rw [hops.out];kernel_rfl) (fun _ _ _ h=>h) (by assumption) ?_
    try simp only [putS]
    refine Zad 7 24 (by rw [hops.out];kernel_rfl) (fun _ _ _ h=>h) (by assumption) ?_
    try simp only [putS]
    refine Zad 8 25 (by rw [hops.out];kernel_rfl) (fun _ _ _ h=>h) (by assumption) ?_
    try simp only [putS]
    refine Zad 9 26 (by rw [hops.out];kernel_rfl) (fun _ _ _ h=>h) (by assumption) ?_
    try simp only [putS]
    iterate 2
     refine Zar 33 ?_ ?_ ?_ (by rw [hops.out];kernel_rfl) ?_ ?_ (by assumption) ?_
     rotate_left 2
     ·rw [hops.out];simp only [getS,Nat.reduceSub,Nat.reduceAdd];rfl
     ·intro W hW;(try dsimp only at hW);go_simp <;> with_reducible rfl
     ·exact fun _ _ _=>id
     try simp only [putS]
    refine Zad 12 29 (by rw [hops.out];kernel_rfl) (fun _ _ _ h=>h) (by assumption) ?_
    try simp only [putS]
    refine Zad 13 30 (by rw [hops.out];kernel_rfl) (fun _ _ _ h=>h) (by assumption) ?_
    try simp only [putS]
    refine Zad 14 31 (by rw [hops.out];kernel_rfl) (fun _ _ _ h=>h) (by assumption) ?_
    try simp only [putS]
    refine Zad 15 32 (by rw [hops.out];kernel_rfl) (fun _ _ _ h=>h) (by assumption) ?_
    try simp only [putS]
    iterate 2
     refine Zar 33 ?_ ?_ ?_ (by rw [hops.out];kernel_rfl) ?_ ?_ (by assumption) ?_
     rotate_left 2
     ·rw [hops.out];simp only [getS,Nat.reduceSub,Nat.reduceAdd];rfl
     ·intro W hW;(try dsimp only at hW);go_simp <;> with_reducible rfl
     ·exact fun _ _ _=>id
     try simp only [putS]
    refine Zad 18 35 (by rw [hops.out];kernel_rfl) (fun _ _ _ h=>h) (by assumption) ?_
    try simp only [putS]
    refine Zad 19 36 (by rw [hops.out];kernel_rfl) (fun _ _ _ h=>h) (by assumption) ?_
    try simp only [putS]
    refine Zad 20 37 (by rw [hops.out];kernel_rfl) (fun _ _ _ h=>h) (by assumption) ?_
    try simp only [putS]
    refine Zad 21 38 (by rw [hops.out];kernel_rfl) (fun _ _ _ h=>h) (by assumption) ?_
    try simp only [putS]
    refine Zad 22 39 (by rw [hops.out];kernel_rfl) (fun _ _ _ h=>h) (by assumption) ?_
    try simp only [putS]
    refine Zad 23 40 (by rw [hops.out];kernel_rfl) (fun _ _ _ h=>h) (by assumption) ?_
    try simp only [putS]
    refine Zad 24 41 (by rw [hops.out];kernel_rfl) (fun _ _ _ h=>h) (by assumption) ?_
    try simp only [putS]
    refine Zad 25 42 (by rw [hops.out];kernel_rfl) (fun _ _ _ h=>h) (by assumption) ?_
    try simp only [putS]
    refine Zad 26 43 (by rw [hops.out];kernel_rfl) (fun _ _ _ h=>h) (by assumption) ?_
    try simp only [putS]
    refine Zad 27 44 (by rw [hops.out];kernel_rfl) (fun _ _ _ h=>h) (by assumption) ?_
    try simp only [putS]
    refine Zad 28 45 (by rw [hops.out];kernel_rfl) (fun _ _ _ h=>h) (by assumption) ?_
    try simp only [putS]
    refine Zad 29 46 (by rw [hops.out];kernel_rfl) (fun _ _ _ h=>h) (by assumption) ?_
    try simp only [putS]
    refine Zad 30 47 (by rw [hops.out];kernel_rfl) (fun _ _ _ h=>h) (by assumption) ?_
    try simp only [putS]
    refine Zad 31 48 (by rw [hops.out];kernel_rfl) (fun _ _ _ h=>h) (by assumption) ?_
    try simp only [putS]
    refine ZaW 32 ?_ ?_ ?_ (by rw [hops.out];kernel_rfl) ?_ ?_ (by assumption) ?_
    rotate_left 2
    ·rw [hops.out];simp only [getS];rfl
    ·intro W hW;(try dsimp only at hW);go_simp <;> with_reducible rfl
    ·exact fun _ _ _=>id
    try simp only [putS]
    refine wpAnyH_done (by rw [hops.out];kernel_rfl) ?_ _
    clear hops ops
    go_wp2
    go_ret
    exact⟨Zag HF.out,BW.drew⟩
   by_cases how:l.to=x.owner
   ·have hoe:(l.to==x.owner)=true:=by simpa using how
    have hf:Zbp x.owner x.near=false:=by unfold Zbp ZbO;rw [ZaH hlt (HAT1.out.trans (by simp [hoe]))];rfl
    have HF:=hide hf;clear hf how;refine Zam (S:=(fun W=>W.cell? ⟨w.heap.size,2,none⟩=some (.int .i64 x.owner)/\W.cell? ⟨w.heap.size,5,none⟩=some (.slice (some ⟨b,off,none⟩) x.near.length c1)/\W.cell? ⟨z,0,none⟩=some (.int .i64 l.to)/\W.cell? ⟨z,1,none⟩=some (.int .i64 l.c))) (by kernel_rfl) 33 rfl ⟨g2,g5,e0,e1⟩ (fun ops hops hHeld=>?_)
    iterate 2
     refine Zar 33 ?_ ?_ ?_ (by rw [hops.out];kernel_rfl) ?_ ?_ (by assumption) ?_
     rotate_left 2
     ·rw [hops.out];simp only [getS,Nat.reduceSub,Nat.reduceAdd];rfl
     ·intro W hW;(try dsimp only at hW);go_simp <;> with_reducible rfl
     ·exact fun _ _ _=>id
     try simp only [putS]
    refine Zao 2 (oi:=?_) ?_ (by rw [hops.out];kernel_rfl) ?_ ?_
    rotate_left 1
    ·rw [hops.out];simp only [getS];rfl
    ·rw [hops.out];kernel_rfl
    intro K hK
    go_simp
    refine (HIT.out _).mono ?_
    rintro e w1 ⟨rfl,rfl⟩;refine hK.out _ _ hHeld (fun _=>?_)
    clear hK K
    try simp only [putS]
    iterate 6
     refine Zar 33 ?_ ?_ ?_ (by rw [hops.out];kernel_rfl) ?_ ?_ (by assumption) ?_
     rotate_left 2
     ·rw [hops.out];simp only [getS,Nat.reduceSub,Nat.reduceAdd];rfl
     ·intro W hW;(try dsimp only at hW);go_simp <;> with_reducible rfl
     ·exact fun _ _ _=>id
     try simp only [putS]
    refine ZaS 9 (oi:=?_) (v:=.bool true) ?_ (by rw [hops.out];kernel_rfl) ?_ ?_ ?_ (by assumption) ?_
    rotate_left 1
    ·rw [hops.out];simp only [getS];rfl
    ·rw [hops.out];kernel_rfl
    ·intro W hW;(try dsimp only at hW);go_simp <;> (first | with_reducible rfl | (simp;omega) | omega)
    ·exact fun _ _ _=>id
    try simp only [putS]
    iterate 2
     refine Zar 33 ?_ ?_ ?_ (by rw [hops.out];kernel_rfl) ?_ ?_ (by assumption) ?_
     rotate_left 2
     ·rw [hops.out];simp only [getS,Nat.reduceSub,Nat.reduceAdd];rfl
     ·intro W hW;(try dsimp only at hW);go_simp <;> with_reducible rfl
     ·exact fun _ _ _=>id
     try simp only [putS]
    refine Zad 12 29 (by rw [hops.out];kernel_rfl) (fun _ _ _ h=>h) (by assumption) ?_
    try simp only [putS]
    refine Zad 13 30 (by rw [hops.out];kernel_rfl) (fun _ _ _ h=>h) (by assumption) ?_
    try simp only [putS]
    refine Zad 14 31 (by rw [hops.out];kernel_rfl) (fun _ _ _ h=>h) (by assumption) ?_
    try simp only [putS]
    refine Zad 15 32 (by rw [hops.out];kernel_rfl) (fun _ _ _ h=>h) (by assumption) ?_
    try simp only [putS]
    iterate 2
     refine Zar 33 ?_ ?_ ?_ (by rw [hops.out];kernel_rfl) ?_ ?_ (by assumption) ?_
     rotate_left 2
     ·rw [hops.out];simp only [getS,Nat.reduceSub,Nat.reduceAdd];rfl
     ·intro W hW;(try dsimp only at hW);go_simp <;> with_reducible rfl
     ·exact fun _ _ _=>id
     try simp only [putS]
    refine Zad 18 35 (by rw [hops.out];kernel_rfl) (fun _ _ _ h=>h) (by assumption) ?_
    try simp only [putS]
    refine Zad 19 36 (by rw [hops.out];kernel_rfl) (fun _ _ _ h=>h) (by assumption) ?_
    try simp only [putS]
    refine Zad 20 37 (by rw [hops.out];kernel_rfl) (fun _ _ _ h=>h) (by assumption) ?_
    try simp only [putS]
    refine Zad 21 38 (by rw [hops.out];kernel_rfl) (fun _ _ _ h=>h) (by assumption) ?_
    try simp only [putS]
    refine Zad 22 39 (by rw [hops.out];kernel_rfl) (fun _ _ _ h=>h) (by assumption) ?_
    try simp only [putS]
    refine Zad 23 40 (by rw [hops.out];kernel_rfl) (fun _ _ _ h=>h) (by assumption) ?_
    try simp only [putS]
    refine Zad 24 41 (by rw [hops.out];kernel_rfl) (fun _ _ _ h=>h) (by assumption) ?_
    try simp only [putS]
    refine Zad 25 42 (by rw [hops.out];kernel_rfl) (fun _ _ _ h=>h) (by assumption) ?_
    try simp only [putS]
    refine Zad 26 43 (by rw [hops.out];kernel_rfl) (fun _ _ _ h=>h) (by assumption) ?_
    try simp only [putS]
    refine Zad 27 44 (by rw [hops.out];kernel_rfl) (fun _ _ _ h=>h) (by assumption) ?_
    try simp only [putS]
    refine Zad 28 45 (by rw [hops.out];kernel_rfl) (fun _ _ _ h=>h) (by assumption) ?_
    try simp only [putS]
    refine Zad 29 46 (by rw [hops.out];kernel_rfl) (fun _ _ _ h=>h) (by assumption) ?_
    try simp only [putS]
    refine Zad 30 47 (by rw [hops.out];kernel_rfl) (fun _ _ _ h=>h) (by assumption) ?_
    try simp only [putS]
    refine Zad 31 48 (by rw [hops.out];kernel_rfl) (fun _ _ _ h=>h) (by assumption) ?_
    try simp only [putS]
    refine ZaW 32 ?_ ?_ ?_ (by rw [hops.out];kernel_rfl) ?_ ?_ (by assumption) ?_
    rotate_left 2
    ·rw [hops.out];simp only [getS];rfl
    ·intro W hW;(try dsimp only at hW);go_simp <;> with_reducible rfl
    ·exact fun _ _ _=>id
    try simp only [putS]
    refine wpAnyH_done (by rw [hops.out];kernel_rfl) ?_ _
    clear hops ops
    go_wp2
    go_ret
    exact⟨Zag HF.out,BW.drew⟩
   have hoe:(l.to==x.owner)=false:=by simpa using how
   have HAT1:Hid (okAt (Zcu x.owner) x.near k=qc):=HAT1.out.trans (by simp [hoe])
   clear how;cases qc
   ·have hf:Zbp x.owner x.near=false:=by unfold Zbp ZbO;rw [ZaH hlt HAT1.out];rfl
    have HF:=hide hf;clear hf;refine Zam (S:=(fun W=>W.cell? ⟨w.heap.size,2,none⟩=some (.int .i64 x.owner)/\W.cell? ⟨w.heap.size,5,none⟩=some (.slice (some ⟨b,off,none⟩) x.near.length c1)/\W.cell? ⟨z,0,none⟩=some (.int .i64 l.to)/\W.cell? ⟨z,1,none⟩=some (.int .i64 l.c))) (by kernel_rfl) 33 rfl ⟨g2,g5,e0,e1⟩ (fun ops hops hHeld=>?_)
    iterate 2
     refine Zar 33 ?_ ?_ ?_ (by rw [hops.out];kernel_rfl) ?_ ?_ (by assumption) ?_
     rotate_left 2
     ·rw [hops.out];simp only [getS,Nat.reduceSub,Nat.reduceAdd];rfl
     ·intro W hW;(try dsimp only at hW);go_simp <;> with_reducible rfl
     ·exact fun _ _ _=>id
     try simp only [putS]
    refine Zao 2 (oi:=?_) ?_ (by rw [hops.out];kernel_rfl) ?_ ?_
    rotate_left 1
    ·rw [hops.out];simp only [getS];rfl
    ·rw [hops.out];kernel_rfl
    intro K hK
    go_simp
    refine (HIT.out _).mono ?_
    rintro e w1 ⟨rfl,rfl⟩;refine hK.out _ _ hHeld (fun _=>?_)
    clear hK K
    try simp only [putS]
    iterate 6
     refine Zar 33 ?_ ?_ ?_ (by rw [hops.out];kernel_rfl) ?_ ?_ (by assumption) ?_
     rotate_left 2
     ·rw [hops.out];simp only [getS,Nat.reduceSub,Nat.reduceAdd];rfl
     ·intro W hW;(try dsimp only at hW);go_simp <;> with_reducible rfl
     ·exact fun _ _ _=>id
     try simp only [putS]
    refine ZaS 9 (oi:=?_) (v:=.bool false) ?_ (by rw [hops.out];kernel_rfl) ?_ ?_ ?_ (by assumption) ?_
    rotate_left 1
    ·rw [hops.out];simp only [getS];rfl
    ·rw [hops.out];kernel_rfl
    ·intro W hW;(try dsimp only at hW);go_simp <;> (first | with_reducible rfl | (simp;omega) | omega)
    ·exact fun _ _ _=>id
    try simp only [putS]
    iterate 4
     refine Zar 33 ?_ ?_ ?_ (by rw [hops.out];kernel_rfl) ?_ ?_ (by assumption) ?_
     rotate_left 2
     ·rw [hops.out];simp only [getS,Nat.reduceSub,Nat.reduceAdd];rfl
     ·intro W hW;(try dsimp only at hW);go_simp <;> with_reducible rfl
     ·exact fun _ _ _=>id
     try simp only [putS]
    refine Zao 14 (oi:=?_) ?_ (by rw [hops.out];kernel_rfl) ?_ ?_
    rotate_left 1
    ·rw [hops.out];simp only [getS];rfl
    ·rw [hops.out];kernel_rfl
    intro K hK
    go_simp
    refine (HIC.out _).mono ?_
    rintro e w1 ⟨rfl,rfl⟩;refine hK.out _ _ hHeld (fun _=>?_)
    clear hK K
    try simp only [putS]
    iterate 3
     refine Zar 33 ?_ ?_ ?_ (by rw [hops.out];kernel_rfl) ?_ ?_ (by assumption) ?_
     rotate_left 2
     ·rw [hops.out];simp only [getS,Nat.reduceSub,Nat.reduceAdd];rfl
     ·intro W hW;(try dsimp only at hW);go_simp <;> with_reducible rfl
     ·exact fun _ _ _=>id
     try simp only [putS]
    refine Zad 18 35 (by rw [hops.out];kernel_rfl) (fun _ _ _ h=>h) (by assumption) ?_
    try simp only [putS]
    refine Zad 19 36 (by rw [hops.out];kernel_rfl) (fun _ _ _ h=>h) (by assumption) ?_
    try simp only [putS]
    refine Zad 20 37 (by rw [hops.out];kernel_rfl) (fun _ _ _ h=>h) (by assumption) ?_
    try simp only [putS]
    refine Zad 21 38 (by rw [hops.out];kernel_rfl) (fun _ _ _ h=>h) (by assumption) ?_
    try simp only [putS]
    refine Zad 22 39 (by rw [hops.out];kernel_rfl) (fun _ _ _ h=>h) (by assumption) ?_
    try simp only [putS]
    refine Zad 23 40 (by rw [hops.out];kernel_rfl) (fun _ _ _ h=>h) (by assumption) ?_
    try simp only [putS]
    refine Zad 24 41 (by rw [hops.out];kernel_rfl) (fun _ _ _ h=>h) (by assumption) ?_
    try simp only [putS]
    refine Zad 25 42 (by rw [hops.out];kernel_rfl) (fun _ _ _ h=>h) (by assumption) ?_
    try simp only [putS]
    refine Zad 26 43 (by rw [hops.out];kernel_rfl) (fun _ _ _ h=>h) (by assumption) ?_
    try simp only [putS]
    refine Zad 27 44 (by rw [hops.out];kernel_rfl) (fun _ _ _ h=>h) (by assumption) ?_
    try simp only [putS]
    refine Zad 28 45 (by rw [hops.out];kernel_rfl) (fun _ _ _ h=>h) (by assumption) ?_
    try simp only [putS]
    refine Zad 29 46 (by rw [hops.out];kernel_rfl) (fun _ _ _ h=>h) (by assumption) ?_
    try simp only [putS]
    refine Zad 30 47 (by rw [hops.out];kernel_rfl) (fun _ _ _ h=>h) (by assumption) ?_
    try simp only [putS]
    refine Zad 31 48 (by rw [hops.out];kernel_rfl) (fun _ _ _ h=>h) (by assumption) ?_
    try simp only [putS]
    refine ZaW 32 ?_ ?_ ?_ (by rw [hops.out];kernel_rfl) ?_ ?_ (by assumption) ?_
    rotate_left 2
    ·rw [hops.out];simp only [getS];rfl
    ·intro W hW;(try dsimp only at hW);go_simp <;> with_reducible rfl
    ·exact fun _ _ _=>id
    try simp only [putS]
    refine wpAnyH_done (by rw [hops.out];kernel_rfl) ?_ _
    clear hops ops
    go_wp2
    go_ret
    exact⟨Zag HF.out,BW.drew⟩
   by_cases hk0:k=0
   ·have hk1:¬(0:Int)<(k:Int):=by omega
    have hat2:ZbP ordN x.near k=true:=by rw [hk0];rfl
    have HAT2:=hide hat2;clear hat2 hk0;refine Zam (S:=(fun W=>W.cell? ⟨w.heap.size,2,none⟩=some (.int .i64 x.owner)/\W.cell? ⟨w.heap.size,5,none⟩=some (.slice (some ⟨b,off,none⟩) x.near.length c1)/\W.cell? ⟨z,0,none⟩=some (.int .i64 l.to)/\W.cell? ⟨z,1,none⟩=some (.int .i64 l.c))) (by kernel_rfl) 33 rfl ⟨g2,g5,e0,e1⟩ (fun ops hops hHeld=>?_)
    iterate 2
     refine Zar 33 ?_ ?_ ?_ (by rw [hops.out];kernel_rfl) ?_ ?_ (by assumption) ?_
     rotate_left 2
     ·rw [hops.out];simp only [getS,Nat.reduceSub,Nat.reduceAdd];rfl
     ·intro W hW;(try dsimp only at hW);go_simp <;> with_reducible rfl
     ·exact fun _ _ _=>id
     try simp only [putS]
    refine Zao 2 (oi:=?_) ?_ (by rw [hops.out];kernel_rfl) ?_ ?_
    rotate_left 1
    ·rw [hops.out];simp only [getS];rfl
    ·rw [hops.out];kernel_rfl
    intro K hK
    go_simp
    refine (HIT.out _).mono ?_
    rintro e w1 ⟨rfl,rfl⟩;refine hK.out _ _ hHeld (fun _=>?_)
    clear hK K
    try simp only [putS]
    iterate 6
     refine Zar 33 ?_ ?_ ?_ (by rw [hops.out];kernel_rfl) ?_ ?_ (by assumption) ?_
     rotate_left 2
     ·rw [hops.out];simp only [getS,Nat.reduceSub,Nat.reduceAdd];rfl
     ·intro W hW;(try dsimp only at hW);go_simp <;> with_reducible rfl
     ·exact fun _ _ _=>id
     try simp only [putS]
    refine ZaS 9 (oi:=?_) (v:=.bool false) ?_ (by rw [hops.out];kernel_rfl) ?_ ?_ ?_ (by assumption) ?_
    rotate_left 1
    ·rw [hops.out];simp only [getS];rfl
    ·rw [hops.out];kernel_rfl
    ·intro W hW;(try dsimp only at hW);go_simp <;> (first | with_reducible rfl | (simp;omega) | omega)
    ·exact fun _ _ _=>id
    try simp only [putS]
    iterate 4
     refine Zar 33 ?_ ?_ ?_ (by rw [hops.out];kernel_rfl) ?_ ?_ (by assumption) ?_
     rotate_left 2
     ·rw [hops.out];simp only [getS,Nat.reduceSub,Nat.reduceAdd];rfl
     ·intro W hW;(try dsimp only at hW);go_simp <;> with_reducible rfl
     ·exact fun _ _ _=>id
     try simp only [putS]
    refine Zao 14 (oi:=?_) ?_ (by rw [hops.out];kernel_rfl) ?_ ?_
    rotate_left 1
    ·rw [hops.out];simp only [getS];rfl
    ·rw [hops.out];kernel_rfl
    intro K hK
    go_simp
    refine (HIC.out _).mono ?_
    rintro e w1 ⟨rfl,rfl⟩;refine hK.out _ _ hHeld (fun _=>?_)
    clear hK K
    try simp only [putS]
    iterate 4
     refine Zar 33 ?_ ?_ ?_ (by rw [hops.out];kernel_rfl) ?_ ?_ (by assumption) ?_
     rotate_left 2
     ·rw [hops.out];simp only [getS,Nat.reduceSub,Nat.reduceAdd];rfl
     ·intro W hW;(try dsimp only at hW);go_simp <;> with_reducible rfl
     ·exact fun _ _ _=>id
     try simp only [putS]
    refine ZaS 19 (oi:=?_) (v:=.bool false) ?_ (by rw [hops.out];kernel_rfl) ?_ ?_ ?_ (by assumption) ?_
    rotate_left 1
    ·rw [hops.out];simp only [getS];rfl
    ·rw [hops.out];kernel_rfl
    ·intro W hW;(try dsimp only at hW);go_simp <;> (first | with_reducible rfl | (simp;omega) | omega)
    ·exact fun _ _ _=>id
    try simp only [putS]
    refine ZaW 20 ?_ ?_ ?_ (by rw [hops.out];kernel_rfl) ?_ ?_ (by assumption) ?_
    rotate_left 2
    ·rw [hops.out];simp only [getS];rfl
    ·intro W hW;(try dsimp only at hW);go_simp <;> with_reducible rfl
    ·exact fun _ _ _=>id
    try simp only [putS]
    refine Zad 21 38 (by rw [hops.out];kernel_rfl) (fun _ _ _ h=>h) (by assumption) ?_
    try simp only [putS]
    refine Zad 22 39 (by rw [hops.out];kernel_rfl) (fun _ _ _ h=>h) (by assumption) ?_
    try simp only [putS]
    refine Zad 23 40 (by rw [hops.out];kernel_rfl) (fun _ _ _ h=>h) (by assumption) ?_
    try simp only [putS]
    refine Zad 24 41 (by rw [hops.out];kernel_rfl) (fun _ _ _ h=>h) (by assumption) ?_
    try simp only [putS]
    refine Zad 25 42 (by rw [hops.out];kernel_rfl) (fun _ _ _ h=>h) (by assumption) ?_
    try simp only [putS]
    refine Zad 26 43 (by rw [hops.out];kernel_rfl) (fun _ _ _ h=>h) (by assumption) ?_
    try simp only [putS]
    refine Zad 27 44 (by rw [hops.out];kernel_rfl) (fun _ _ _ h=>h) (by assumption) ?_
    try simp only [putS]
    refine Zad 28 45 (by rw [hops.out];kernel_rfl) (fun _ _ _ h=>h) (by assumption) ?_
    try simp only [putS]
    refine Zad 29 46 (by rw [hops.out];kernel_rfl) (fun _ _ _ h=>h) (by assumption) ?_
    try simp only [putS]
    refine Zad 30 47 (by rw [hops.out];kernel_rfl) (fun _ _ _ h=>h) (by assumption) ?_
    try simp only [putS]
    iterate 2
     refine Zar 33 ?_ ?_ ?_ (by rw [hops.out];kernel_rfl) ?_ ?_ (by assumption) ?_
     rotate_left 2
     ·rw [hops.out];simp only [getS,Nat.reduceSub,Nat.reduceAdd];rfl
     ·intro W hW;(try dsimp only at hW);go_simp <;> with_reducible rfl
     ·exact fun _ _ _=>id
     try simp only [putS]
    refine wpAnyH_done (by rw [hops.out];kernel_rfl) ?_ _
    clear hops ops
    go_wp2
    exact⟨⟨k+1,by omega,by go_num,ZaE HALL.out HAT1.out,ZaE HASC.out HAT2.out,BW.drew,HX9.out⟩,by simp [intOf];omega⟩
   ·obtain ⟨j,hj⟩:∃ j,k=j+1:=⟨k-1,by omega⟩
    obtain⟨p,hp⟩:∃ p,x.near[j]? = some p:=⟨x.near[j],List.getElem?_eq_getElem (by omega)⟩
    obtain⟨b',off',cap2,hve2,hbb2,t0,t1⟩:=HV.out.cells j p hp;cases hve2
    rw [<-BW.cell (p:=⟨b,off+j*2,none⟩) hbb] at t0;have hat2:ZbP ordN x.near k=decide (p.to-l.to<0):=by rw [hj];exact ZbV hp (by rw [<-hj];exact HL.out)
    have HAT2:=hide hat2;have hj1:(k:Int)-1=(j:Int):=by omega
    have hj2:(0:Int)<=(j:Int):=by omega
    have hj3:(j:Int)<(x.near.length:Int):=by omega
    have hj4:(0:Int)<(k:Int):=by omega
    have hj5:IntKind.i64.wrap (j:Int)=(j:Int):=ZaC _ (by omega) (by omega)
    clear hp hat2 hj hk0 hbb2 t1;by_cases hpl:p.to<l.to
    ·have hd:decide (p.to-l.to<0)=true:=decide_eq_true (by omega)
     have HAT3:Hid (ZbP ordN x.near k=true):=HAT2.out.trans hd;have hpl2:¬l.to<=p.to:=by omega
     clear hd HAT2;refine Zam (S:=(fun W=>W.cell? ⟨w.heap.size,2,none⟩=some (.int .i64 x.owner)/\W.cell? ⟨w.heap.size,5,none⟩=some (.slice (some ⟨b,off,none⟩) x.near.length c1)/\W.cell? ⟨z,0,none⟩=some (.int .i64 l.to)/\W.cell? ⟨z,1,none⟩=some (.int .i64 l.c)/\W.cell? ⟨b,off+j*2,none⟩=some (.int .i64 p.to))) (by kernel_rfl) 33 rfl ⟨g2,g5,e0,e1,t0⟩ (fun ops hops hHeld=>?_)
     iterate 2
      refine Zar 33 ?_ ?_ ?_ (by rw [hops.out];kernel_rfl) ?_ ?_ (by assumption) ?_
      rotate_left 2
      ·rw [hops.out];simp only [getS,Nat.reduceSub,Nat.reduceAdd];rfl
      ·intro W hW;(try dsimp only at hW);go_simp <;> with_reducible rfl
      ·exact fun _ _ _=>id
      try simp only [putS]
     refine Zao 2 (oi:=?_) ?_ (by rw [hops.out];kernel_rfl) ?_ ?_
     rotate_left 1
     ·rw [hops.out];simp only [getS];rfl
     ·rw [hops.out];kernel_rfl
     intro K hK
     go_simp
     refine (HIT.out _).mono ?_
     rintro e w1 ⟨rfl,rfl⟩;refine hK.out _ _ hHeld (fun _=>?_)
     clear hK K
     try simp only [putS]
     iterate 6
      refine Zar 33 ?_ ?_ ?_ (by rw [hops.out];kernel_rfl) ?_ ?_ (by assumption) ?_
      rotate_left 2
      ·rw [hops.out];simp only [getS,Nat.reduceSub,Nat.reduceAdd];rfl
      ·intro W hW;(try dsimp only at hW);go_simp <;> with_reducible rfl
      ·exact fun _ _ _=>id
      try simp only [putS]
     refine ZaS 9 (oi:=?_) (v:=.bool false) ?_ (by rw [hops.out];kernel_rfl) ?_ ?_ ?_ (by assumption) ?_
     rotate_left 1
     ·rw [hops.out];simp only [getS];rfl
     ·rw [hops.out];kernel_rfl
     ·intro W hW;(try dsimp only at hW);go_simp <;> (first | with_reducible rfl | (simp;omega) | omega)
     ·exact fun _ _ _=>id
     try simp only [putS]
     iterate 4
      refine Zar 33 ?_ ?_ ?_ (by rw [hops.out];kernel_rfl) ?_ ?_ (by assumption) ?_
      rotate_left 2
      ·rw [hops.out];simp only [getS,Nat.reduceSub,Nat.reduceAdd];rfl
      ·intro W hW;(try dsimp only at hW);go_simp <;> with_reducible rfl
      ·exact fun _ _ _=>id
      try simp only [putS]
     refine Zao 14 (oi:=?_) ?_ (by rw [hops.out];kernel_rfl) ?_ ?_
     rotate_left 1
     ·rw [hops.out];simp only [getS];rfl
     ·rw [hops.out];kernel_rfl
     intro K hK
     go_simp
     refine (HIC.out _).mono ?_
     rintro e w1 ⟨rfl,rfl⟩;refine hK.out _ _ hHeld (fun _=>?_)
     clear hK K
     try simp only [putS]
     iterate 4
      refine Zar 33 ?_ ?_ ?_ (by rw [hops.out];kernel_rfl) ?_ ?_ (by assumption) ?_
      rotate_left 2
      ·rw [hops.out];simp only [getS,Nat.reduceSub,Nat.reduceAdd];rfl
      ·intro W hW;(try dsimp only at hW);go_simp <;> with_reducible rfl
      ·exact fun _ _ _=>id
      try simp only [putS]
     refine ZaS 19 (oi:=?_) (v:=.bool true) ?_ (by rw [hops.out];kernel_rfl) ?_ ?_ ?_ (by assumption) ?_
     rotate_left 1
     ·rw [hops.out];simp only [getS];rfl
     ·rw [hops.out];kernel_rfl
     ·intro W hW;(try dsimp only at hW);go_simp <;> (first | with_reducible rfl | (simp;omega) | omega)
     ·exact fun _ _ _=>id
     try simp only [putS]
     iterate 13
      refine Zar 33 ?_ ?_ ?_ (by rw [hops.out];kernel_rfl) ?_ ?_ (by assumption) ?_
      rotate_left 2
      ·rw [hops.out];simp only [getS,Nat.reduceSub,Nat.reduceAdd];rfl
      ·intro W hW;(try dsimp only at hW);go_simp <;> with_reducible rfl
      ·exact fun _ _ _=>id
      try simp only [putS]
     refine wpAnyH_done (by rw [hops.out];kernel_rfl) ?_ _
     clear hops ops
     go_wp2
     exact⟨⟨k+1,by omega,by go_num,ZaE HALL.out HAT1.out,ZaE HASC.out HAT3.out,BW.drew,HX9.out⟩,by simp [intOf];omega⟩
    ·have hd:decide (p.to-l.to<0)=false:=decide_eq_false (by omega)
     have hf:Zbp x.owner x.near=false:=by unfold Zbp ascB;rw [ZaH hlt (HAT2.out.trans hd)];simp
     have HF:=hide hf;have hpl2:l.to<=p.to:=by omega
     clear hd hf HAT2;refine Zam (S:=(fun W=>W.cell? ⟨w.heap.size,2,none⟩=some (.int .i64 x.owner)/\W.cell? ⟨w.heap.size,5,none⟩=some (.slice (some ⟨b,off,none⟩) x.near.length c1)/\W.cell? ⟨z,0,none⟩=some (.int .i64 l.to)/\W.cell? ⟨z,1,none⟩=some (.int .i64 l.c)/\W.cell? ⟨b,off+j*2,none⟩=some (.int .i64 p.to))) (by kernel_rfl) 33 rfl ⟨g2,g5,e0,e1,t0⟩ (fun ops hops hHeld=>?_)
     iterate 2
      refine Zar 33 ?_ ?_ ?_ (by rw [hops.out];kernel_rfl) ?_ ?_ (by assumption) ?_
      rotate_left 2
      ·rw [hops.out];simp only [getS,Nat.reduceSub,Nat.reduceAdd];rfl
      ·intro W hW;(try dsimp only at hW);go_simp <;> with_reducible rfl
      ·exact fun _ _ _=>id
      try simp only [putS]
     refine Zao 2 (oi:=?_) ?_ (by rw [hops.out];kernel_rfl) ?_ ?_
     rotate_left 1
     ·rw [hops.out];simp only [getS];rfl
     ·rw [hops.out];kernel_rfl
     intro K hK
     go_simp
     refine (HIT.out _).mono ?_
     rintro e w1 ⟨rfl,rfl⟩;refine hK.out _ _ hHeld (fun _=>?_)
     clear hK K
     try simp only [putS]
     iterate 6
      refine Zar 33 ?_ ?_ ?_ (by rw [hops.out];kernel_rfl) ?_ ?_ (by assumption) ?_
      rotate_left 2
      ·rw [hops.out];simp only [getS,Nat.reduceSub,Nat.reduceAdd];rfl
      ·intro W hW;(try dsimp only at hW);go_simp <;> with_reducible rfl
      ·exact fun _ _ _=>id
      try simp only [putS]
     refine ZaS 9 (oi:=?_) (v:=.bool false) ?_ (by rw [hops.out];kernel_rfl) ?_ ?_ ?_ (by assumption) ?_
     rotate_left 1
     ·rw [hops.out];simp only [getS];rfl
     ·rw [hops.out];kernel_rfl
     ·intro W hW;(try dsimp only at hW);go_simp <;> (first | with_reducible rfl | (simp;omega) | omega)
     ·exact fun _ _ _=>id
     try simp only [putS]
     iterate 4
      refine Zar 33 ?_ ?_ ?_ (by rw [hops.out];kernel_rfl) ?_ ?_ (by assumption) ?_
      rotate_left 2
      ·rw [hops.out];simp only [getS,Nat.reduceSub,Nat.reduceAdd];rfl
      ·intro W hW;(try dsimp only at hW);go_simp <;> with_reducible rfl
      ·exact fun _ _ _=>id
      try simp only [putS]
     refine Zao 14 (oi:=?_) ?_ (by rw [hops.out];kernel_rfl) ?_ ?_
     rotate_left 1
     ·rw [hops.out];simp only [getS];rfl
     ·rw [hops.out];kernel_rfl
     intro K hK
     go_simp
     refine (HIC.out _).mono ?_
     rintro e w1 ⟨rfl,rfl⟩;refine hK.out _ _ hHeld (fun _=>?_)
     clear hK K
     try simp only [putS]
     iterate 4
      refine Zar 33 ?_ ?_ ?_ (by rw [hops.out];kernel_rfl) ?_ ?_ (by assumption) ?_
      rotate_left 2
      ·rw [hops.out];simp only [getS,Nat.reduceSub,Nat.reduceAdd];rfl
      ·intro W hW;(try dsimp only at hW);go_simp <;> with_reducible rfl
      ·exact fun _ _ _=>id
      try simp only [putS]
     refine ZaS 19 (oi:=?_) (v:=.bool true) ?_ (by rw [hops.out];kernel_rfl) ?_ ?_ ?_ (by assumption) ?_
     rotate_left 1
     ·rw [hops.out];simp only [getS];rfl
     ·rw [hops.out];kernel_rfl
     ·intro W hW;(try dsimp only at hW);go_simp <;> (first | with_reducible rfl | (simp;omega) | omega)
     ·exact fun _ _ _=>id
     try simp only [putS]
     iterate 13
      refine Zar 33 ?_ ?_ ?_ (by rw [hops.out];kernel_rfl) ?_ ?_ (by assumption) ?_
      rotate_left 2
      ·rw [hops.out];simp only [getS,Nat.reduceSub,Nat.reduceAdd];rfl
      ·intro W hW;(try dsimp only at hW);go_simp <;> with_reducible rfl
      ·exact fun _ _ _=>id
      try simp only [putS]
     refine wpAnyH_done (by rw [hops.out];kernel_rfl) ?_ _
     clear hops ops
     go_wp2
     go_ret
     exact⟨Zag HF.out,BW.drew⟩
  ·have hfin:Zbp x.owner x.near=true:=by
    have e1:ZbO (Zcu x.owner) x.near=true:=Zbl fun i hi=>HALL.out i (by omega)
    have e2:ascB ordN x.near=true:=Zbl fun i hi=>HASC.out i (by omega)
    unfold Zbp;rw [e1,e2];rfl
   have HFIN:=hide hfin;clear hfin
   go_wp2
   go_ret
   exact⟨Zag HFIN.out,hnx⟩
def Ze7 (p l:Nr):Int:=cmpN p.to l.to
theorem Zpz (ls:List Nr):ascB Ze7 ls=ascB ordN ls:=by
 unfold ascB
 congr 1
 funext k
 cases k with
 | zero=>rfl
 | succ k=>
  simp only [ZbP]
  split
  ·rename_i p l _ _
   have h:(Ze7 p l<0)↔(ordN p l<0):=by
    unfold Ze7 ordN;rw [Zdp];omega
   exact decide_eq_decide.2 h
  ·rfl
theorem Zh8 (l m:Nr)(w:World):Calls Tryz.prog 206 #[nrV l,nrV m] w fun e w'=>e=.returned (.int .i64 (Ze7 l m))/\Below w.heap.size w w':=by
 obtain⟨a,b⟩:=l;obtain⟨a',b'⟩:=m;unfold nrV Ze7;simp only []
 have H:=hide (Za5 a a')
 go_enter Tryz.func206,Tryz.ntmps206
 go_wp2_with fail
 refine (H.out _).mono ?_
 rintro e w1 ⟨rfl,rfl⟩
 go_wp2
 go_ret
 exact⟨rfl,Zan _ _⟩
theorem ZjK (v:Value)(ls:List Nr)(w:World)(hls:ls.length<=1048576)(hv:ZaB w v ls w.heap.size):
  Calls Tryz.prog 205 #[v,.func (.func 206) #[] #[]] w fun e w'=>e=.returned (.bool (ascB Ze7 ls))/\Below w.heap.size w w':=by
 obtain⟨a,cap,rfl⟩:=hv.shape;have HV:=hide hv;clear hv
 go_enter Tryz.func205,Tryz.ntmps205
 go_wp2
 go_loopw [5] (fun i wr=>∃ k:Nat,1<=k/\(k<=ls.length\/k=1)/\i=.int .i64 k/\(∀ j,j<k->ZbP Ze7 ls j=true)/\Below w.heap.size w wr) (fun i _=>ls.length+1-(intOf i).toNat)
 case atStart=>exact ⟨1,by omega,by omega,rfl,fun j hj=>by (obtain rfl:j=0:=by omega);rfl,Below.refl _ _⟩
 case round=>
  obtain⟨k,hk1,hk,rfl,hno,hb⟩:=hrel;have HNO:=hide hno;clear hno;by_cases hlt:k<ls.length
  ·obtain ⟨l,hl⟩:∃ l,ls[k]? = some l:=⟨ls[k],List.getElem?_eq_getElem hlt⟩
   obtain⟨j,hj⟩:∃ j,k=j+1:=⟨k-1,by omega⟩
   obtain⟨p,hp⟩:∃ p,ls[j]? = some p:=⟨ls[j],List.getElem?_eq_getElem (by omega)⟩
   obtain⟨b,off,cap',hve,hbb,c0,c1⟩:=HV.out.cells k l hl;cases hve
   obtain⟨b',off',cap2,hve2,hbb2,d0,d1⟩:=HV.out.cells j p hp;cases hve2
   rw [<-hb.cell (p:=⟨b,off+k*2,none⟩) hbb] at c0;rw [<-hb.cell (p:=⟨b,off+k*2+1,none⟩) hbb] at c1;rw [<-hb.cell (p:=⟨b,off+j*2,none⟩) hbb] at d0;rw [<-hb.cell (p:=⟨b,off+j*2+1,none⟩) hbb] at d1;have hat:ZbP Ze7 ls k=decide (Ze7 p l<0):=by rw [hj];exact ZbV hp (by rw [<-hj];exact hl)
   have hzr:=hb.size;have hbr:b<wr.heap.size:=by omega
   have hki:(0:Int)<=(k:Int):=by omega
   have hkj:(k:Int)<(ls.length:Int):=by omega
   have hj1:(k:Int)-1=(j:Int):=by omega
   have hj2:(0:Int)<=(j:Int):=by omega
   have hj3:(j:Int)<(ls.length:Int):=by omega
   have hj5:IntKind.i64.wrap (j:Int)=(j:Int):=ZaC _ (by omega) (by omega)
   have HORD:=hide (Zh8 p l);have HAT:=hide hat;have HJ:=hide hj;clear hl hp hat hj;obtain⟨x,hx⟩:∃ x,x=Ze7 p l:=⟨_,rfl⟩;rw [<-hx] at HORD HAT;clear hx;unfold nrV at HORD;by_cases hx0:x<0
   ·have hx1:¬(0:Int)<=x:=by omega
    rw [decide_eq_true hx0] at HAT
    go_wp2
    go_region_held3 (fun W=>W.cell? ⟨b,off+k*2,none⟩=some (.int .i64 l.to)/\W.cell? ⟨b,off+k*2+1,none⟩=some (.int .i64 l.c)/\W.cell? ⟨b,off+j*2,none⟩=some (.int .i64 p.to)/\W.cell? ⟨b,off+j*2+1,none⟩=some (.int .i64 p.c)) (first | go_keep | (refine ⟨?_,?_,?_,?_⟩ <;> (rw [hbc.cell (by assumption)];assumption))) (first | (go_at_call 206;refine (HORD.out _).mono ?_;rintro e w2 ⟨rfl,hbc⟩))
    go_wp2
    exact⟨⟨k+1,by omega,by omega,by go_num,ZaE HNO.out HAT.out,hb.drew.trans (hbc.mono hb.size)⟩,by simp [intOf];omega⟩
   ·have hx1:(0:Int)<=x:=by omega
    rw [decide_eq_false hx0] at HAT;have hf:ascB Ze7 ls=false:=ZaH hlt HAT.out;have HF:=hide hf;clear hf
    go_wp2
    go_region_held3 (fun W=>W.cell? ⟨b,off+k*2,none⟩=some (.int .i64 l.to)/\W.cell? ⟨b,off+k*2+1,none⟩=some (.int .i64 l.c)/\W.cell? ⟨b,off+j*2,none⟩=some (.int .i64 p.to)/\W.cell? ⟨b,off+j*2+1,none⟩=some (.int .i64 p.c)) (first | go_keep | (refine ⟨?_,?_,?_,?_⟩ <;> (rw [hbc.cell (by assumption)];assumption))) (first | (go_at_call 206;refine (HORD.out _).mono ?_;rintro e w2 ⟨rfl,hbc⟩))
    go_wp2
    go_ret
    exact⟨Zag HF.out,hb.drew.trans (hbc.mono hb.size)⟩
  ·have hall:ascB Ze7 ls=true:=Zbl fun i hi=>HNO.out i (by omega)
   have HA:=hide hall;clear hall
   go_wp2
   go_ret
   exact⟨Zag HA.out,hb⟩
theorem Znj (o:Int)(v:Value)(ls:List Nr)(w:World)(hls:ls.length<=1048576)(hv:ZaB w v ls w.heap.size):
  Calls Tryz.prog 187 #[.int .i64 o,v] w fun e w'=>e=.returned (.bool (Zbp o ls))/\Below w.heap.size w w':=by
 obtain⟨a,cap,rfl⟩:=hv.shape;have HV:=hide hv;clear hv
 go_enter Tryz.func187,Tryz.ntmps187
 go_wp2
 go_loopw [9] (fun i wr=>∃ k:Nat,k<=ls.length/\i=.int .i64 k/\(∀ j,j<k->okAt (Zcu o) ls j=true)/\Below w.heap.size w wr) (fun i _=>ls.length-(intOf i).toNat)
 case atStart=>exact ⟨0,by omega,rfl,by omega,Below.refl _ _⟩
 case round=>
  obtain⟨k,hk,rfl,hno,hb⟩:=hrel;have HNO:=hide hno;clear hno;by_cases hlt:k<ls.length
  ·obtain ⟨l,hl⟩:∃ l,ls[k]? = some l:=⟨ls[k],List.getElem?_eq_getElem hlt⟩
   obtain⟨b,off,cap',hve,hbb,c0,c1⟩:=HV.out.cells k l hl;cases hve
   rw [<-hb.cell (p:=⟨b,off+k*2,none⟩) hbb] at c0;rw [<-hb.cell (p:=⟨b,off+k*2+1,none⟩) hbb] at c1;have hki:(0:Int)<=(k:Int):=by omega
   have hkj:(k:Int)<(ls.length:Int):=by omega
   have HAT:=hide (Zb2 (ok:=Zcu o) hl);obtain⟨lt,lc⟩:=l;simp only [Zcu] at HAT c0 c1
   obtain⟨q1,hq1⟩:∃ q,q=inB lt 1 6:=⟨_,rfl⟩;obtain⟨q3,hq3⟩:∃ q,q=inB lc 1 1000:=⟨_,rfl⟩;have H1:=hide (Za1 lt 1 6);have H3:=hide (Za1 lc 1 1000);rw [<-hq1] at H1 HAT;rw [<-hq3] at H3 HAT;clear hl hq1 hq3;have hzr:=hb.size;have B2:Below w.heap.size w (wr.alloc (.cells #[.int .i64 lt,.int .i64 lc] 225)):=hb.alloc hb.size _
   go_wp2_with fail
   refine (H1.out _).mono ?_
   rintro e w2 ⟨rfl,rfl⟩;cases q1
   ·have hf:Zbp o ls=false:=by unfold Zbp ZbO;rw [ZaH hlt HAT.out];rfl
    have HF:=hide hf;clear hf
    go_wp2
    go_ret
    exact⟨Zag HF.out,B2⟩
   by_cases hlo:lt=o
   ·have hd:(lt==o)=true:=by simpa using hlo
    have hf:Zbp o ls=false:=by
     have:=HAT.out;rw [hd] at this;unfold Zbp ZbO;rw [ZaH hlt this];rfl
    have HF:=hide hf;clear hf hlo HAT
    go_wp2
    go_ret
    exact⟨Zag HF.out,B2⟩
   have hd:(lt==o)=false:=by simpa using hlo
   rw [hd] at HAT;clear hlo
   go_wp2_with fail
   refine (H3.out _).mono ?_
   rintro e w2 ⟨rfl,rfl⟩;cases q3
   ·have hf:Zbp o ls=false:=by unfold Zbp ZbO;rw [ZaH hlt HAT.out];rfl
    have HF:=hide hf;clear hf
    go_wp2
    go_ret
    exact⟨Zag HF.out,B2⟩
   ·go_wp2
    exact⟨⟨k+1,by omega,by go_num,ZaE HNO.out HAT.out,B2⟩,by simp [intOf];omega⟩
  ·have hall:ZbO (Zcu o) ls=true:=Zbl fun i hi=>HNO.out i (by omega)
   have hF:Zbp o ls=ascB Ze7 ls:=by unfold Zbp;rw [hall,Zpz];rfl
   have HF:=hide hF;clear hF hall;have HVR:=hide (HV.out.then hb)
   go_wp2_with fail
   refine (ZjK _ ls _ hls HVR.out).mono ?_
   rintro e w2 ⟨rfl,hbc⟩
   go_wp2
   go_ret
   exact⟨Zag HF.out,hb.trans (hbc.mono hb.size)⟩
end Go.Proofs.YtnndlmodjkplnaaGreatDoor
