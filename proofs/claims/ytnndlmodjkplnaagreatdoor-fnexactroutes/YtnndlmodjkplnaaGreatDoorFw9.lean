/-
  RecOk IBodyOk IRecOk StoreI SelfOkI
-/
import Derived.Test.YtnndlmodjkplnaaGreatDoorFw8
import Derived.Test.YtnndlmodjkplnaaGreatDoorFw4
import Derived.Test.YtnndlmodjkplnaaGreatDoorFw6
import Derived.Test.YtnndlmodjkplnaaGreatDoorFw7
namespace Go.Proofs.YtnndlmodjkplnaaGreatDoor
open Go.RowKit
set_option linter.unusedSimpArgs false
set_option linter.unusedVariables false
set_option maxRecDepth 100000
set_option maxHeartbeats 8000000
def ZbH (x:RecD):Bool:=inB x.owner 1 6&&inB x.seq 1 100000 &&
 (if x.kind=1 then inB x.area 0 2&&x.key==0&&Zbp x.owner x.near&&x.cost==0 && !x.far
  else if x.kind=2 then inB x.area 0 2&&inB x.key 1 6&&x.near.length==0&&inB x.cost 0 60000 && !x.far
  else if x.kind=3 then x.area==9&&inB x.key 1 9&&x.near.length==0&&(inB x.cost 1 1000||x.cost==60000)
  else false)
theorem Zmn (v1:Value)(x:RecD)(w:World)(hl:x.near.length<=1048576)(hv:ZaB w v1 x.near w.heap.size):
  Calls Tryz.prog 80 #[.agg (recC x v1)] w fun e w'=>e=.returned (.bool (ZbH x))/\Below w.heap.size w w':=by
 obtain⟨p1,c1,rfl⟩:=hv.shape;have HN:=hide (fun W (h:Below w.heap.size w W)=>ZnZ (.slice p1 x.near.length c1) x W hl (hv.then h))
 obtain⟨R,hR⟩:∃ R,R=ZbH x:=⟨_,rfl⟩;rw [<-hR];obtain⟨qn,hqn⟩:∃ q,q=Zbp x.owner x.near:=⟨_,rfl⟩;rw [<-hqn] at HN;unfold ZbH at hR;rw [<-hqn] at hR;obtain⟨area,kind,owner,key,seq,ns,cost,far⟩:=x;unfold recC at HN |-;simp only [] at HN hR hl hv |-
 have hnew:=heap_alloc_new w (.cells #[.int .i64 area,.int .i64 kind,.int .i64 owner,.int .i64 key,.int .i64 seq,.slice p1 ns.length c1,.int .i64 cost,.bool far] 128);have B0:Below w.heap.size w (w.alloc (.cells #[.int .i64 area,.int .i64 kind,.int .i64 owner,.int .i64 key,.int .i64 seq,.slice p1 ns.length c1,.int .i64 cost,.bool far] 128)):=(Below.refl _ _).alloc (Nat.le_refl _) _;have H1:=hide (ZbC owner 1 6);have H2:=hide (ZbC seq 1 100000);obtain⟨q1,hq1⟩:∃ q,q=inB owner 1 6:=⟨_,rfl⟩;obtain⟨q2,hq2⟩:∃ q,q=inB seq 1 100000:=⟨_,rfl⟩;rw [<-hq1] at H1 hR;rw [<-hq2] at H2 hR;have NEW:=hide hnew;have HR:=hide hR;have HL:=hide hl;clear hnew hR hq1 hq2 hqn hv hl
 go_enter Tryz.func80,Tryz.ntmps80
 go_wp2_with fail
 refine (H1.out _).mono ?_
 rintro e w1 ⟨rfl,rfl⟩;cases q1
 ·go_wp2
  go_ret
  exact⟨Zag (by rw [HR.out];rfl),B0⟩
 go_wp2_with fail
 refine (H2.out _).mono ?_
 rintro e w1 ⟨rfl,rfl⟩;cases q2
 ·go_wp2
  go_ret
  exact⟨Zag (by rw [HR.out];rfl),B0⟩
 clear H1 H2;by_cases hk1:kind=1
 ·subst hk1
  have HR2:=hide (show R=(inB area 0 2&&key==0&&qn&&cost==0 && !far) by have:=HR.out;simpa using this)
  have H3:=hide (ZbC area 0 2);obtain⟨q3,hq3⟩:∃ q,q=inB area 0 2:=⟨_,rfl⟩;rw [<-hq3] at H3 HR2;clear hq3 HR
  go_wp2_with fail
  refine (H3.out _).mono ?_
  rintro e w1 ⟨rfl,rfl⟩;cases q3
  ·go_wp2
   go_ret
   exact⟨Zag (by rw [HR2.out];rfl),B0⟩
  by_cases hkey:key=0
  case neg=>
   have hd:(key==0)=false:=by simpa using hkey
   rw [hd] at HR2
   go_wp2
   go_ret
   exact⟨Zag (by rw [HR2.out];rfl),B0⟩
  subst hkey
  go_wp2_with fail
  refine (HN.out _ B0).mono ?_
  rintro e w2 ⟨rfl,b2⟩;have hx2:w2.heap[w.heap.size]? = some (.cells #[.int .i64 area,.int .i64 1,.int .i64 owner,.int .i64 0,.int .i64 seq,.slice p1 ns.length c1,.int .i64 cost,.bool far] 128):=by rw [b2.block _ (by simp)];exact NEW.out
  have f6:=Zaa hx2 6;have f7:=Zaa hx2 7;simp at f6 f7
  have B2:=B0.trans (b2.mono B0.size);clear hx2 b2 NEW B0;cases qn
  ·go_wp2
   go_ret
   exact⟨Zag (by rw [HR2.out];rfl),B2⟩
  by_cases hco:cost=0
  case neg=>
   have hd:(cost==0)=false:=by simpa using hco
   rw [hd] at HR2
   go_wp2
   go_ret
   exact⟨Zag (by rw [HR2.out];rfl),B2⟩
  subst hco;cases far
  ·go_wp2
   go_ret
   exact⟨Zag (by rw [HR2.out];rfl),B2⟩
  ·go_wp2
   go_ret
   exact⟨Zag (by rw [HR2.out];rfl),B2⟩
 have k1:(kind==1)=false:=by simpa using hk1
 by_cases hk2:kind=2
 ·subst hk2
  have HR2:=hide (show R=(inB area 0 2&&inB key 1 6&&ns.length==0&&inB cost 0 60000 && !far) by have:=HR.out;simpa using this)
  have H3:=hide (ZbC area 0 2);obtain⟨q3,hq3⟩:∃ q,q=inB area 0 2:=⟨_,rfl⟩;rw [<-hq3] at H3 HR2;have H4:=hide (ZbC key 1 6);obtain⟨q4,hq4⟩:∃ q,q=inB key 1 6:=⟨_,rfl⟩;rw [<-hq4] at H4 HR2;have H5:=hide (ZbC cost 0 60000);obtain⟨q5,hq5⟩:∃ q,q=inB cost 0 60000:=⟨_,rfl⟩;rw [<-hq5] at H5 HR2;clear hq3 hq4 hq5 HR hk1 k1
  go_wp2_with fail
  refine (H3.out _).mono ?_
  rintro e w1 ⟨rfl,rfl⟩;cases q3
  ·go_wp2
   go_ret
   exact⟨Zag (by rw [HR2.out];rfl),B0⟩
  go_wp2_with fail
  refine (H4.out _).mono ?_
  rintro e w1 ⟨rfl,rfl⟩;cases q4
  ·go_wp2
   go_ret
   exact⟨Zag (by rw [HR2.out];rfl),B0⟩
  by_cases hn0:ns.length=0
  case neg=>
   have hd:((ns.length:Int)==0)=false:=by simp;intro h;rw [h] at hn0;exact hn0 rfl
   have hR2:R=false:=by rw [HR2.out,show (ns.length==0)=false by simpa using hn0];rfl
   have HR3:=hide hR2;clear hR2 hn0 HR2
   go_wp2
   go_ret
   exact⟨Zag HR3.out,B0⟩
  have hd:((ns.length:Int)==0)=true:=by simp;exact List.length_eq_zero_iff.1 hn0
  have HR3:=hide (show R=(q5 && !far) by have:=HR2.out;rw [show (ns.length==0)=true by simpa using hn0] at this;simpa using this)
  clear hn0 HR2
  go_wp2_with fail
  refine (H5.out _).mono ?_
  rintro e w1 ⟨rfl,rfl⟩;cases q5
  ·go_wp2
   go_ret
   exact⟨Zag (by rw [HR3.out];rfl),B0⟩
  cases far
  ·go_wp2
   go_ret
   exact⟨Zag (by rw [HR3.out];rfl),B0⟩
  ·go_wp2
   go_ret
   exact⟨Zag (by rw [HR3.out];rfl),B0⟩
 have k2:(kind==2)=false:=by simpa using hk2
 by_cases hk3:kind=3
 ·subst hk3
  have HR2:=hide (show R=(area==9&&inB key 1 9&&ns.length==0&&(inB cost 1 1000||cost==60000)) by have:=HR.out;simpa using this)
  have H4:=hide (ZbC key 1 9);obtain⟨q4,hq4⟩:∃ q,q=inB key 1 9:=⟨_,rfl⟩;rw [<-hq4] at H4 HR2;have H5:=hide (ZbC cost 1 1000);obtain⟨q5,hq5⟩:∃ q,q=inB cost 1 1000:=⟨_,rfl⟩;rw [<-hq5] at H5 HR2;clear hq4 hq5 HR hk1 k1 hk2 k2;by_cases ha:area=9
  case neg=>
   have hd:(area==9)=false:=by simpa using ha
   rw [hd] at HR2
   go_wp2
   go_ret
   exact⟨Zag (by rw [HR2.out];rfl),B0⟩
  subst ha
  go_wp2_with fail
  refine (H4.out _).mono ?_
  rintro e w1 ⟨rfl,rfl⟩;cases q4
  ·go_wp2
   go_ret
   exact⟨Zag (by rw [HR2.out];rfl),B0⟩
  by_cases hn0:ns.length=0
  case neg=>
   have hd:((ns.length:Int)==0)=false:=by simp;intro h;rw [h] at hn0;exact hn0 rfl
   have hR2:R=false:=by rw [HR2.out,show (ns.length==0)=false by simpa using hn0];rfl
   have HR3:=hide hR2;clear hR2 hn0 HR2
   go_wp2
   go_ret
   exact⟨Zag HR3.out,B0⟩
  have hd:((ns.length:Int)==0)=true:=by simp;exact List.length_eq_zero_iff.1 hn0
  have HR3:=hide (show R=(q5||cost==60000) by have:=HR2.out;rw [show (ns.length==0)=true by simpa using hn0] at this;simpa using this)
  clear hn0 HR2
  go_wp2_with fail
  refine (H5.out _).mono ?_
  rintro e w1 ⟨rfl,rfl⟩;cases q5
  ·go_wp2
   go_ret
   exact⟨Zag (by rw [HR3.out];rfl),B0⟩
  ·go_wp2
   go_ret
   exact⟨Zag (by rw [HR3.out];rfl),B0⟩
 have k3:(kind==3)=false:=by simpa using hk3
 have hR2:R=false:=by rw [HR.out,if_neg hk1,if_neg hk2,if_neg hk3];rfl
 have HR2:=hide hR2;clear hR2 HR hk1 hk2 hk3
 go_wp2
 go_ret
 exact⟨Zag HR2.out,B0⟩
def nilC:Array Value:=#[.int .i64 0,.int .i64 0,.int .i64 0,.int .i64 0,.int .i64 0,.slice none 0 0,.int .i64 0,.bool false]
theorem as1_1 (v:Value)(w:World):(Instr.typeAssert (.iface 257 v) 235 257 true).run Tryz.prog w=.ok (.tuple #[v,.bool true]) w:=by kernel_rfl
theorem as2_1 (v:Value)(w:World):(Instr.typeAssert (.iface 258 v) 235 257 true).run Tryz.prog w=.ok (.tuple #[.agg nilC,.bool false]) w:=by kernel_rfl
theorem as2_2 (v:Value)(w:World):(Instr.typeAssert (.iface 258 v) 235 258 true).run Tryz.prog w=.ok (.tuple #[v,.bool true]) w:=by kernel_rfl
theorem as3_1 (v:Value)(w:World):(Instr.typeAssert (.iface 259 v) 235 257 true).run Tryz.prog w=.ok (.tuple #[.agg nilC,.bool false]) w:=by kernel_rfl
theorem as3_2 (v:Value)(w:World):(Instr.typeAssert (.iface 259 v) 235 258 true).run Tryz.prog w=.ok (.tuple #[.agg nilC,.bool false]) w:=by kernel_rfl
theorem as3_3 (v:Value)(w:World):(Instr.typeAssert (.iface 259 v) 235 259 true).run Tryz.prog w=.ok (.tuple #[v,.bool true]) w:=by kernel_rfl
theorem Zix (v1:Value)(x:RecD)(w:World)(hl:x.near.length<=1048576)(hv:ZaB w v1 x.near w.heap.size):
  Calls Tryz.prog 165 #[.iface 257 (.agg (recC x v1))] w fun e w'=>e=.returned (.bool (Zbp x.owner x.near&&x.cost==0 && !x.far))/\Below w.heap.size w w':=by
 obtain⟨p1,c1,rfl⟩:=hv.shape;have HN:=hide (fun W (h:Below w.heap.size w W)=>Znj x.owner (.slice p1 x.near.length c1) x.near W hl (hv.then h))
 obtain⟨qn,hqn⟩:∃ q,q=Zbp x.owner x.near:=⟨_,rfl⟩;rw [<-hqn] at HN |-;clear hqn hv;obtain⟨area,kind,owner,key,seq,ns,cost,far⟩:=x;unfold recC;simp only [] at HN hl |-
 have a1:=as1_1;have B0:Below w.heap.size w (w.alloc (.cells #[.int .i64 area,.int .i64 kind,.int .i64 owner,.int .i64 key,.int .i64 seq,.slice p1 ns.length c1,.int .i64 cost,.bool far] 257)):=(Below.refl _ _).alloc (Nat.le_refl _) _;have NEW:=hide (heap_alloc_new w (.cells #[.int .i64 area,.int .i64 kind,.int .i64 owner,.int .i64 key,.int .i64 seq,.slice p1 ns.length c1,.int .i64 cost,.bool far] 257))
 go_enter Tryz.func165,Tryz.ntmps165
 go_wp2_with fail
 refine (HN.out _ B0).mono ?_
 rintro e w1 ⟨rfl,b1⟩;have hx1:w1.heap[w.heap.size]? = some (.cells #[.int .i64 area,.int .i64 kind,.int .i64 owner,.int .i64 key,.int .i64 seq,.slice p1 ns.length c1,.int .i64 cost,.bool far] 257):=by rw [b1.block _ (by simp)];exact NEW.out
 have f6:=Zaa hx1 6;have f7:=Zaa hx1 7;simp at f6 f7
 have B1:=B0.trans (b1.mono B0.size);clear hx1 b1 NEW HN;cases qn
 ·go_wp2
  go_ret
  exact⟨by simp,B1⟩
 by_cases hc:cost=0
 case neg=>
  have hd:(cost==0)=false:=by simpa using hc
  go_wp2
  go_ret
  exact⟨by simp [hd],B1⟩
 subst hc;cases far
 all_goals
  go_wp2
  go_ret
  exact⟨by simp,B1⟩
theorem ZgK (v1:Value)(x:RecD)(w:World)(hl:x.near.length<=1048576)(hv:ZaB w v1 x.near w.heap.size):
  Calls Tryz.prog 165 #[.iface 258 (.agg (recC x v1))] w fun e w'=>e=.returned (.bool (x.near.length==0&&inB x.cost 0 60000 && !x.far))/\Below w.heap.size w w':=by
 obtain⟨p1,c1,rfl⟩:=hv.shape;clear hv;have H5:=hide (Za1 x.cost 0 60000);obtain⟨q5,hq5⟩:∃ q,q=inB x.cost 0 60000:=⟨_,rfl⟩;rw [<-hq5] at H5 |-;clear hq5;obtain⟨area,kind,owner,key,seq,ns,cost,far⟩:=x;unfold recC;simp only [] at H5 hl |-
 have a1:=as2_1;have a2:=as2_2;have B0:Below w.heap.size w (w.alloc (.cells #[.int .i64 area,.int .i64 kind,.int .i64 owner,.int .i64 key,.int .i64 seq,.slice p1 ns.length c1,.int .i64 cost,.bool far] 258)):=(Below.refl _ _).alloc (Nat.le_refl _) _;by_cases hn0:ns.length=0
 case neg=>
  have hd:((ns.length:Int)==0)=false:=by simp;intro h;rw [h] at hn0;exact hn0 rfl
  have hd2:(ns.length==0)=false:=by simpa using hn0
  rw [hd2];clear hn0 hd2
  go_enter Tryz.func165,Tryz.ntmps165
  go_wp2
  go_ret
  exact⟨by simp,B0⟩
 have hd:((ns.length:Int)==0)=true:=by simp;exact List.length_eq_zero_iff.1 hn0
 have hd2:(ns.length==0)=true:=by simpa using hn0
 rw [hd2];clear hn0 hd2
 go_enter Tryz.func165,Tryz.ntmps165
 go_wp2_with fail
 refine (H5.out _).mono ?_
 rintro e w1 ⟨rfl,rfl⟩;cases q5
 ·go_wp2
  go_ret
  exact⟨by simp,B0⟩
 cases far
 all_goals
  go_wp2
  go_ret
  exact⟨by simp,B0⟩
theorem ZhI (v1:Value)(x:RecD)(w:World)(hl:x.near.length<=1048576)(hv:ZaB w v1 x.near w.heap.size):
  Calls Tryz.prog 165 #[.iface 259 (.agg (recC x v1))] w fun e w'=>e=.returned (.bool (x.near.length==0&&(inB x.cost 1 1000||x.cost==60000)))/\Below w.heap.size w w':=by
 obtain⟨p1,c1,rfl⟩:=hv.shape;clear hv;have H5:=hide (Za1 x.cost 1 1000);obtain⟨q5,hq5⟩:∃ q,q=inB x.cost 1 1000:=⟨_,rfl⟩;rw [<-hq5] at H5 |-;clear hq5;obtain⟨area,kind,owner,key,seq,ns,cost,far⟩:=x;unfold recC;simp only [] at H5 hl |-
 have a1:=as3_1;have a2:=as3_2;have a3:=as3_3;have B0:Below w.heap.size w (w.alloc (.cells #[.int .i64 area,.int .i64 kind,.int .i64 owner,.int .i64 key,.int .i64 seq,.slice p1 ns.length c1,.int .i64 cost,.bool far] 259)):=(Below.refl _ _).alloc (Nat.le_refl _) _;by_cases hn0:ns.length=0
 case neg=>
  have hd:((ns.length:Int)==0)=false:=by simp;intro h;rw [h] at hn0;exact hn0 rfl
  have hd2:(ns.length==0)=false:=by simpa using hn0
  rw [hd2];clear hn0 hd2
  go_enter Tryz.func165,Tryz.ntmps165
  go_wp2
  go_ret
  exact⟨by simp,B0⟩
 have hd:((ns.length:Int)==0)=true:=by simp;exact List.length_eq_zero_iff.1 hn0
 have hd2:(ns.length==0)=true:=by simpa using hn0
 rw [hd2];clear hn0 hd2
 go_enter Tryz.func165,Tryz.ntmps165
 go_wp2_with fail
 refine (H5.out _).mono ?_
 rintro e w1 ⟨rfl,rfl⟩;cases q5
 all_goals
  go_wp2
  go_ret
  exact⟨by simp,B0⟩
theorem ZlO (v1:Value)(x:RecD)(w:World)(hl:x.near.length<=1048576)(hv:ZaB w v1 x.near w.heap.size):
  Calls Tryz.prog 131 #[.agg (recC x v1)] w fun e w'=>e=.returned (.bool (ZbH x))/\Below w.heap.size w w':=by
 obtain⟨p1,c1,rfl⟩:=hv.shape;have HK:=hide (ZoL (.slice p1 x.near.length c1) x);obtain⟨R,hR⟩:∃ R,R=ZbH x:=⟨_,rfl⟩;rw [<-hR];unfold ZbH at hR;have H1:=hide (Za1 x.owner 1 6);have H2:=hide (Za1 x.seq 1 100000);obtain⟨q1,hq1⟩:∃ q,q=inB x.owner 1 6:=⟨_,rfl⟩;obtain⟨q2,hq2⟩:∃ q,q=inB x.seq 1 100000:=⟨_,rfl⟩;rw [<-hq1] at H1 hR;rw [<-hq2] at H2 hR;clear hq1 hq2;have B0:Below w.heap.size w (w.alloc (.cells (recC x (.slice p1 x.near.length c1)) 128)):=(Below.refl _ _).alloc (Nat.le_refl _) _;have hnew:=heap_alloc_new w (.cells (recC x (.slice p1 x.near.length c1)) 128);by_cases hk1:x.kind=1
 ·rw [if_pos hk1] at hR
  have hkv:Zd6 x (.slice p1 x.near.length c1)=.tuple #[.iface 257 (.agg (recC x (.slice p1 x.near.length c1))),.bool true]:=by unfold Zd6;rw [if_pos hk1]
  rw [hkv] at HK;have HR:=hide hR;have HV:=hide hv;have NEW:=hide hnew;have HKEY:=hide (Zkk (.slice p1 x.near.length c1) x);have HBODY:=hide (fun W (h:Below w.heap.size w W)=>Zix (.slice p1 x.near.length c1) x W hl (hv.then h))
  obtain⟨q3,hq3⟩:∃ q,q=(inB x.area 0 2&&x.key==0):=⟨_,rfl⟩;obtain⟨q4,hq4⟩:∃ q,q=(Zbp x.owner x.near&&x.cost==0 && !x.far):=⟨_,rfl⟩;rw [<-hq3] at HKEY;rw [<-hq4] at HBODY;have HR2:=hide (show R=(q1&&q2&&q3&&q4) by rw [HR.out,hq3,hq4];simp only [Bool.and_assoc])
  clear hR hkv hv hnew hq3 hq4 HR hk1;unfold recC at *
  go_enter Tryz.func131,Tryz.ntmps131
  go_wp2_with fail
  refine (HK.out _).mono ?_
  rintro e w1 ⟨rfl,b1⟩;have hx1:w1.heap[w.heap.size]? = some (.cells #[.int .i64 x.area,.int .i64 x.kind,.int .i64 x.owner,.int .i64 x.key,.int .i64 x.seq,.slice p1 x.near.length c1,.int .i64 x.cost,.bool x.far] 128):=by rw [b1.block _ (by simp)];exact NEW.out
  have f2:=Zaa hx1 2;have f4:=Zaa hx1 4;simp at f2 f4
  have B1:=B0.trans (b1.mono B0.size);clear hx1 b1
  go_wp2_with fail
  refine (H1.out _).mono ?_
  rintro e w2 ⟨rfl,rfl⟩;cases q1
  ·go_wp2
   go_ret
   exact⟨Zag (by rw [HR2.out];rfl),B1⟩
  go_wp2_with fail
  refine (H2.out _).mono ?_
  rintro e w2 ⟨rfl,rfl⟩;cases q2
  ·go_wp2
   go_ret
   exact⟨Zag (by rw [HR2.out];rfl),B1⟩
  go_wp2_with fail
  refine (HKEY.out _).mono ?_
  rintro e w2 ⟨rfl,b2⟩;have B2:=B1.trans (b2.mono B1.size);clear b2;cases q3
  ·go_wp2
   go_ret
   exact⟨Zag (by rw [HR2.out];rfl),B2⟩
  go_wp2_with fail
  refine (HBODY.out _ B2).mono ?_
  rintro e w3 ⟨rfl,b3⟩;have B3:=B2.trans (b3.mono B2.size);clear b3
  go_wp2
  go_ret
  exact⟨Zag (by rw [HR2.out];rfl),B3⟩
 rw [if_neg hk1] at hR;by_cases hk2:x.kind=2
 ·rw [if_pos hk2] at hR
  have hkv:Zd6 x (.slice p1 x.near.length c1)=.tuple #[.iface 258 (.agg (recC x (.slice p1 x.near.length c1))),.bool true]:=by unfold Zd6;rw [if_neg hk1,if_pos hk2]
  rw [hkv] at HK;have HR:=hide hR;have HV:=hide hv;have NEW:=hide hnew;have HKEY:=hide (ZhH (.slice p1 x.near.length c1) x);have HBODY:=hide (fun W (h:Below w.heap.size w W)=>ZgK (.slice p1 x.near.length c1) x W hl (hv.then h))
  obtain⟨q3,hq3⟩:∃ q,q=(inB x.area 0 2&&inB x.key 1 6):=⟨_,rfl⟩;obtain⟨q4,hq4⟩:∃ q,q=(x.near.length==0&&inB x.cost 0 60000 && !x.far):=⟨_,rfl⟩;rw [<-hq3] at HKEY;rw [<-hq4] at HBODY;have HR2:=hide (show R=(q1&&q2&&q3&&q4) by rw [HR.out,hq3,hq4];simp only [Bool.and_assoc])
  clear hR hkv hv hnew hq3 hq4 HR hk1 hk2;unfold recC at *
  go_enter Tryz.func131,Tryz.ntmps131
  go_wp2_with fail
  refine (HK.out _).mono ?_
  rintro e w1 ⟨rfl,b1⟩;have hx1:w1.heap[w.heap.size]? = some (.cells #[.int .i64 x.area,.int .i64 x.kind,.int .i64 x.owner,.int .i64 x.key,.int .i64 x.seq,.slice p1 x.near.length c1,.int .i64 x.cost,.bool x.far] 128):=by rw [b1.block _ (by simp)];exact NEW.out
  have f2:=Zaa hx1 2;have f4:=Zaa hx1 4;simp at f2 f4
  have B1:=B0.trans (b1.mono B0.size);clear hx1 b1
  go_wp2_with fail
  refine (H1.out _).mono ?_
  rintro e w2 ⟨rfl,rfl⟩;cases q1
  ·go_wp2
   go_ret
   exact⟨Zag (by rw [HR2.out];rfl),B1⟩
  go_wp2_with fail
  refine (H2.out _).mono ?_
  rintro e w2 ⟨rfl,rfl⟩;cases q2
  ·go_wp2
   go_ret
   exact⟨Zag (by rw [HR2.out];rfl),B1⟩
  go_wp2_with fail
  refine (HKEY.out _).mono ?_
  rintro e w2 ⟨rfl,b2⟩;have B2:=B1.trans (b2.mono B1.size);clear b2;cases q3
  ·go_wp2
   go_ret
   exact⟨Zag (by rw [HR2.out];rfl),B2⟩
  go_wp2_with fail
  refine (HBODY.out _ B2).mono ?_
  rintro e w3 ⟨rfl,b3⟩;have B3:=B2.trans (b3.mono B2.size);clear b3
  go_wp2
  go_ret
  exact⟨Zag (by rw [HR2.out];rfl),B3⟩
 rw [if_neg hk2] at hR;by_cases hk3:x.kind=3
 ·rw [if_pos hk3] at hR
  have hkv:Zd6 x (.slice p1 x.near.length c1)=.tuple #[.iface 259 (.agg (recC x (.slice p1 x.near.length c1))),.bool true]:=by unfold Zd6;rw [if_neg hk1,if_neg hk2,if_pos hk3]
  rw [hkv] at HK;have HR:=hide hR;have HV:=hide hv;have NEW:=hide hnew;have HKEY:=hide (Zjt (.slice p1 x.near.length c1) x);have HBODY:=hide (fun W (h:Below w.heap.size w W)=>ZhI (.slice p1 x.near.length c1) x W hl (hv.then h))
  obtain⟨q3,hq3⟩:∃ q,q=(x.area==9&&inB x.key 1 9):=⟨_,rfl⟩;obtain⟨q4,hq4⟩:∃ q,q=(x.near.length==0&&(inB x.cost 1 1000||x.cost==60000)):=⟨_,rfl⟩;rw [<-hq3] at HKEY;rw [<-hq4] at HBODY;have HR2:=hide (show R=(q1&&q2&&q3&&q4) by rw [HR.out,hq3,hq4];simp only [Bool.and_assoc])
  clear hR hkv hv hnew hq3 hq4 HR hk1 hk2 hk3;unfold recC at *
  go_enter Tryz.func131,Tryz.ntmps131
  go_wp2_with fail
  refine (HK.out _).mono ?_
  rintro e w1 ⟨rfl,b1⟩;have hx1:w1.heap[w.heap.size]? = some (.cells #[.int .i64 x.area,.int .i64 x.kind,.int .i64 x.owner,.int .i64 x.key,.int .i64 x.seq,.slice p1 x.near.length c1,.int .i64 x.cost,.bool x.far] 128):=by rw [b1.block _ (by simp)];exact NEW.out
  have f2:=Zaa hx1 2;have f4:=Zaa hx1 4;simp at f2 f4
  have B1:=B0.trans (b1.mono B0.size);clear hx1 b1
  go_wp2_with fail
  refine (H1.out _).mono ?_
  rintro e w2 ⟨rfl,rfl⟩;cases q1
  ·go_wp2
   go_ret
   exact⟨Zag (by rw [HR2.out];rfl),B1⟩
  go_wp2_with fail
  refine (H2.out _).mono ?_
  rintro e w2 ⟨rfl,rfl⟩;cases q2
  ·go_wp2
   go_ret
   exact⟨Zag (by rw [HR2.out];rfl),B1⟩
  go_wp2_with fail
  refine (HKEY.out _).mono ?_
  rintro e w2 ⟨rfl,b2⟩;have B2:=B1.trans (b2.mono B1.size);clear b2;cases q3
  ·go_wp2
   go_ret
   exact⟨Zag (by rw [HR2.out];rfl),B2⟩
  go_wp2_with fail
  refine (HBODY.out _ B2).mono ?_
  rintro e w3 ⟨rfl,b3⟩;have B3:=B2.trans (b3.mono B2.size);clear b3
  go_wp2
  go_ret
  exact⟨Zag (by rw [HR2.out];rfl),B3⟩
 rw [if_neg hk3] at hR;have hkv:Zd6 x (.slice p1 x.near.length c1)=.tuple #[.nilIface,.bool false]:=by unfold Zd6;rw [if_neg hk1,if_neg hk2,if_neg hk3]
 rw [hkv] at HK;have hR2:R=false:=by rw [hR];simp
 have HR2:=hide hR2;clear hR hkv hv hnew hR2 H1 H2 hk1 hk2 hk3;unfold recC at *
 go_enter Tryz.func131,Tryz.ntmps131
 go_wp2_with fail
 refine (HK.out _).mono ?_
 rintro e w1 ⟨rfl,b1⟩;have B1:=B0.trans (b1.mono B0.size);clear b1
 go_wp2
 go_ret
 exact⟨Zag HR2.out,B1⟩
def ordR (x y:RecD):Int:=cmpK (cmpN x.area y.area) (cmpN x.kind y.kind) (cmpN x.owner y.owner) (cmpN x.key y.key)
theorem ZoZ (x y:RecD):decide (ordR x y<0)=Ze6 x y:=Zox x y
def ZaJ (xs:List RecD):Bool:=decide (xs.length<=150)&&ZbO ZbH xs&&ascB ordR xs
theorem ZgS (v1 v2:Value)(x y:RecD)(w:World):Calls Tryz.prog 167 #[.agg (recC x v1),.agg (recC y v2)] w fun e w'=>e=.returned (.int .i64 (ordR x y))/\Below w.heap.size w w':=by
 have HK:=hide Znn;unfold ordR;have HO:=hide (Zh7 x.area x.kind x.owner x.key y.area y.kind y.owner y.key);obtain⟨r,hr⟩:∃ r,r=cmpK (cmpN x.area y.area) (cmpN x.kind y.kind) (cmpN x.owner y.owner) (cmpN x.key y.key):=⟨_,rfl⟩;rw [<-hr] at HO |-;clear hr;unfold recC at *
 go_enter Tryz.func167,Tryz.ntmps167
 go_wp2
 obtain⟨w1,hw1⟩:∃ w1,w1=(w.alloc (.cells #[.int .i64 x.area,.int .i64 x.kind,.int .i64 x.owner,.int .i64 x.key,.int .i64 x.seq,v1,.int .i64 x.cost,.bool x.far] 128)).alloc (.cells #[.int .i64 y.area,.int .i64 y.kind,.int .i64 y.owner,.int .i64 y.key,.int .i64 y.seq,v2,.int .i64 y.cost,.bool y.far] 128):=⟨_,rfl⟩;have B1:Below w.heap.size w w1:=by rw [hw1];exact Zan _ _
 have p0:w1.heap[w.heap.size]? = some (.cells #[.int .i64 x.area,.int .i64 x.kind,.int .i64 x.owner,.int .i64 x.key,.int .i64 x.seq,v1,.int .i64 x.cost,.bool x.far] 128):=by rw [hw1,Below.heap_alloc _ _ _ (by simp),heap_alloc_new]
 have q0:w1.heap[w.heap.size+1]? = some (.cells #[.int .i64 y.area,.int .i64 y.kind,.int .i64 y.owner,.int .i64 y.key,.int .i64 y.seq,v2,.int .i64 y.cost,.bool y.far] 128):=by
  rw [hw1];have:=heap_alloc_new (w.alloc (.cells #[.int .i64 x.area,.int .i64 x.kind,.int .i64 x.owner,.int .i64 x.key,.int .i64 x.seq,v1,.int .i64 x.cost,.bool x.far] 128)) (.cells #[.int .i64 y.area,.int .i64 y.kind,.int .i64 y.owner,.int .i64 y.key,.int .i64 y.seq,v2,.int .i64 y.cost,.bool y.far] 128)
  simpa using this
 rw [<-hw1];clear hw1;have s0:=Zaa p0 0;have s1:=Zaa p0 1;have s2:=Zaa p0 2;have s3:=Zaa p0 3;have s4:=Zaa p0 4;have s5:=Zaa p0 5;have s6:=Zaa p0 6;have s7:=Zaa p0 7;simp at s0 s1 s2 s3 s4 s5 s6 s7
 have t0:=Zaa q0 0;have t1:=Zaa q0 1;have t2:=Zaa q0 2;have t3:=Zaa q0 3;have t4:=Zaa q0 4;have t5:=Zaa q0 5;have t6:=Zaa q0 6;have t7:=Zaa q0 7;simp at t0 t1 t2 t3 t4 t5 t6 t7
 have hz0:=Zab p0;have hz1:=Zab q0;clear p0 q0;have hz2:=B1.size
 go_region_held3 (fun W=>W.cell? ⟨w.heap.size,0,none⟩=some (.int .i64 x.area)/\W.cell? ⟨w.heap.size,1,none⟩=some (.int .i64 x.kind)/\W.cell? ⟨w.heap.size,2,none⟩=some (.int .i64 x.owner)/\W.cell? ⟨w.heap.size,3,none⟩=some (.int .i64 x.key)/\W.cell? ⟨w.heap.size,4,none⟩=some (.int .i64 x.seq)/\W.cell? ⟨w.heap.size,5,none⟩=some (v1)/\W.cell? ⟨w.heap.size,6,none⟩=some (.int .i64 x.cost)/\W.cell? ⟨w.heap.size,7,none⟩=some (.bool x.far)/\W.cell? ⟨w.heap.size+1,0,none⟩=some (.int .i64 y.area)/\W.cell? ⟨w.heap.size+1,1,none⟩=some (.int .i64 y.kind)/\W.cell? ⟨w.heap.size+1,2,none⟩=some (.int .i64 y.owner)/\W.cell? ⟨w.heap.size+1,3,none⟩=some (.int .i64 y.key)/\W.cell? ⟨w.heap.size+1,4,none⟩=some (.int .i64 y.seq)/\W.cell? ⟨w.heap.size+1,5,none⟩=some (v2)/\W.cell? ⟨w.heap.size+1,6,none⟩=some (.int .i64 y.cost)/\W.cell? ⟨w.heap.size+1,7,none⟩=some (.bool y.far)) (first | go_keep | (refine ⟨?_,?_,?_,?_,?_,?_,?_,?_,?_,?_,?_,?_,?_,?_,?_,?_⟩ <;> (rw [b4.cell (Nat.lt_of_lt_of_le (Nat.lt_of_lt_of_le (by assumption) b2.size) b3.size),b3.cell (Nat.lt_of_lt_of_le (by assumption) b2.size),b2.cell (by assumption)];assumption)) | (refine ⟨?_,?_,?_,?_,?_,?_,?_,?_,?_,?_,?_,?_,?_,?_,?_,?_⟩ <;> (rw [b3.cell (Nat.lt_of_lt_of_le (by assumption) b2.size),b2.cell (by assumption)];assumption)) | (refine ⟨?_,?_,?_,?_,?_,?_,?_,?_,?_,?_,?_,?_,?_,?_,?_,?_⟩ <;> (rw [b2.cell (by assumption)];assumption))) (first | (go_at_call 188;refine (HO.out _).mono ?_;rintro e w4 ⟨rfl,b4⟩) | (have hb2:=b2;refine (HK.out _ _ _ _ _ _ _ _ _).mono ?_;rintro e w3 ⟨rfl,b3⟩) | (refine (HK.out _ _ _ _ _ _ _ _ _).mono ?_;rintro e w2 ⟨rfl,b2⟩))
 have B2:Below w.heap.size w w2:=B1.drew.trans (b2.mono B1.size);have B3:Below w.heap.size w w3:=B2.trans (b3.mono B2.size);have B4:Below w.heap.size w w4:=B3.trans (b4.mono B3.size)
 go_wp2
 go_ret
 exact⟨rfl,B4⟩
theorem Zln (v:Value)(ps:List RP)(w:World)(hls:ps.length<=1048576)(hv:Zbo w v ps w.heap.size):
  Calls Tryz.prog 166 #[v,.func (.func 167) #[] #[]] w fun e w'=>e=.returned (.bool (ascB ordR (fsts ps)))/\Below w.heap.size w w':=by
 obtain⟨a,cap,rfl⟩:=hv.shape;have HV:=hide hv;clear hv;have hfl:(fsts ps).length=ps.length:=by simp [fsts]
 have HFL:=hide hfl;clear hfl
 go_enter Tryz.func166,Tryz.ntmps166
 go_wp2
 go_loopw [5] (fun i wr=>∃ k:Nat,1<=k/\(k<=ps.length\/k=1)/\i=.int .i64 k/\(∀ j,j<k->ZbP ordR (fsts ps) j=true)/\Below w.heap.size w wr) (fun i _=>ps.length+1-(intOf i).toNat)
 case atStart=>exact ⟨1,by omega,by omega,rfl,fun j hj=>by (obtain rfl:j=0:=by omega);rfl,Below.refl _ _⟩
 case round=>
  obtain⟨k,hk1,hk,rfl,hno,hb⟩:=hrel;have HNO:=hide hno;clear hno;by_cases hlt:k<ps.length
  ·obtain ⟨l,hl⟩:∃ l,ps[k]? = some l:=⟨ps[k],List.getElem?_eq_getElem hlt⟩
   obtain⟨j,hj⟩:∃ j,k=j+1:=⟨k-1,by omega⟩
   obtain⟨p,hp⟩:∃ p,ps[j]? = some p:=⟨ps[j],List.getElem?_eq_getElem (by omega)⟩
   obtain⟨b,off,cap',hve,hbb,c0,c1,c2,c3,c4,c5,c6,c7,_⟩:=HV.out.cells k l hl;cases hve
   obtain⟨b',off',cap2,hve2,hbb2,d0,d1,d2,d3,d4,d5,d6,d7,_⟩:=HV.out.cells j p hp;cases hve2
   rw [<-hb.cell (p:=⟨b,off+k*8,none⟩) hbb] at c0;rw [<-hb.cell (p:=⟨b,off+k*8+1,none⟩) hbb] at c1;rw [<-hb.cell (p:=⟨b,off+k*8+2,none⟩) hbb] at c2;rw [<-hb.cell (p:=⟨b,off+k*8+3,none⟩) hbb] at c3;rw [<-hb.cell (p:=⟨b,off+k*8+4,none⟩) hbb] at c4;rw [<-hb.cell (p:=⟨b,off+k*8+5,none⟩) hbb] at c5;rw [<-hb.cell (p:=⟨b,off+k*8+6,none⟩) hbb] at c6;rw [<-hb.cell (p:=⟨b,off+k*8+7,none⟩) hbb] at c7;rw [<-hb.cell (p:=⟨b,off+j*8,none⟩) hbb] at d0;rw [<-hb.cell (p:=⟨b,off+j*8+1,none⟩) hbb] at d1;rw [<-hb.cell (p:=⟨b,off+j*8+2,none⟩) hbb] at d2;rw [<-hb.cell (p:=⟨b,off+j*8+3,none⟩) hbb] at d3;rw [<-hb.cell (p:=⟨b,off+j*8+4,none⟩) hbb] at d4;rw [<-hb.cell (p:=⟨b,off+j*8+5,none⟩) hbb] at d5;rw [<-hb.cell (p:=⟨b,off+j*8+6,none⟩) hbb] at d6;rw [<-hb.cell (p:=⟨b,off+j*8+7,none⟩) hbb] at d7;have hat:ZbP ordR (fsts ps) k=decide (ordR p.1 l.1<0):=by rw [hj];exact ZbV (Zbw hp) (by rw [<-hj];exact Zbw hl)
   have hzr:=hb.size;have hbr:b<wr.heap.size:=by omega
   have hki:(0:Int)<=(k:Int):=by omega
   have hkj:(k:Int)<(ps.length:Int):=by omega
   have hj1:(k:Int)-1=(j:Int):=by omega
   have hj2:(0:Int)<=(j:Int):=by omega
   have hj3:(j:Int)<(ps.length:Int):=by omega
   have hj5:IntKind.i64.wrap (j:Int)=(j:Int):=ZaC _ (by omega) (by omega)
   have HORD:=hide (ZgS p.2 l.2 p.1 l.1);have HAT:=hide hat;clear hl hp hat hj;obtain⟨x,hx⟩:∃ x,x=ordR p.1 l.1:=⟨_,rfl⟩;rw [<-hx] at HORD HAT;clear hx;unfold recC at HORD;by_cases hx0:x<0
   ·have hx1:¬(0:Int)<=x:=by omega
    rw [decide_eq_true hx0] at HAT
    go_wp2
    go_region_held3 (fun W=>W.cell? ⟨b,off+k*8,none⟩=some (.int .i64 l.1.area)/\W.cell? ⟨b,off+k*8+1,none⟩=some (.int .i64 l.1.kind)/\W.cell? ⟨b,off+k*8+2,none⟩=some (.int .i64 l.1.owner)/\W.cell? ⟨b,off+k*8+3,none⟩=some (.int .i64 l.1.key)/\W.cell? ⟨b,off+k*8+4,none⟩=some (.int .i64 l.1.seq)/\W.cell? ⟨b,off+k*8+5,none⟩=some (l.2)/\W.cell? ⟨b,off+k*8+6,none⟩=some (.int .i64 l.1.cost)/\W.cell? ⟨b,off+k*8+7,none⟩=some (.bool l.1.far)/\W.cell? ⟨b,off+j*8,none⟩=some (.int .i64 p.1.area)/\W.cell? ⟨b,off+j*8+1,none⟩=some (.int .i64 p.1.kind)/\W.cell? ⟨b,off+j*8+2,none⟩=some (.int .i64 p.1.owner)/\W.cell? ⟨b,off+j*8+3,none⟩=some (.int .i64 p.1.key)/\W.cell? ⟨b,off+j*8+4,none⟩=some (.int .i64 p.1.seq)/\W.cell? ⟨b,off+j*8+5,none⟩=some (p.2)/\W.cell? ⟨b,off+j*8+6,none⟩=some (.int .i64 p.1.cost)/\W.cell? ⟨b,off+j*8+7,none⟩=some (.bool p.1.far)) (first | go_keep | (refine ⟨?_,?_,?_,?_,?_,?_,?_,?_,?_,?_,?_,?_,?_,?_,?_,?_⟩ <;> (rw [hbc.cell (by assumption)];assumption))) (first | (go_at_call 167;refine (HORD.out _).mono ?_;rintro e w2 ⟨rfl,hbc⟩))
    go_wp2
    exact⟨⟨k+1,by omega,by omega,by go_num,ZaE HNO.out HAT.out,hb.drew.trans (hbc.mono hb.size)⟩,by simp [intOf];omega⟩
   ·have hx1:(0:Int)<=x:=by omega
    rw [decide_eq_false hx0] at HAT;have hf:ascB ordR (fsts ps)=false:=ZaH (by rw [HFL.out];exact hlt) HAT.out
    have HF:=hide hf;clear hf
    go_wp2
    go_region_held3 (fun W=>W.cell? ⟨b,off+k*8,none⟩=some (.int .i64 l.1.area)/\W.cell? ⟨b,off+k*8+1,none⟩=some (.int .i64 l.1.kind)/\W.cell? ⟨b,off+k*8+2,none⟩=some (.int .i64 l.1.owner)/\W.cell? ⟨b,off+k*8+3,none⟩=some (.int .i64 l.1.key)/\W.cell? ⟨b,off+k*8+4,none⟩=some (.int .i64 l.1.seq)/\W.cell? ⟨b,off+k*8+5,none⟩=some (l.2)/\W.cell? ⟨b,off+k*8+6,none⟩=some (.int .i64 l.1.cost)/\W.cell? ⟨b,off+k*8+7,none⟩=some (.bool l.1.far)/\W.cell? ⟨b,off+j*8,none⟩=some (.int .i64 p.1.area)/\W.cell? ⟨b,off+j*8+1,none⟩=some (.int .i64 p.1.kind)/\W.cell? ⟨b,off+j*8+2,none⟩=some (.int .i64 p.1.owner)/\W.cell? ⟨b,off+j*8+3,none⟩=some (.int .i64 p.1.key)/\W.cell? ⟨b,off+j*8+4,none⟩=some (.int .i64 p.1.seq)/\W.cell? ⟨b,off+j*8+5,none⟩=some (p.2)/\W.cell? ⟨b,off+j*8+6,none⟩=some (.int .i64 p.1.cost)/\W.cell? ⟨b,off+j*8+7,none⟩=some (.bool p.1.far)) (first | go_keep | (refine ⟨?_,?_,?_,?_,?_,?_,?_,?_,?_,?_,?_,?_,?_,?_,?_,?_⟩ <;> (rw [hbc.cell (by assumption)];assumption))) (first | (go_at_call 167;refine (HORD.out _).mono ?_;rintro e w2 ⟨rfl,hbc⟩))
    go_wp2
    go_ret
    exact⟨Zag HF.out,hb.drew.trans (hbc.mono hb.size)⟩
  ·have hall:ascB ordR (fsts ps)=true:=Zbl fun i hi=>HNO.out i (by have:=HFL.out;omega)
   have HA:=hide hall;clear hall
   go_wp2
   go_ret
   exact⟨Zag HA.out,hb⟩
theorem Zj6 (v:Value)(ps:List RP)(w:World)(hls:ps.length<=1048576)(hv:Zbo w v ps w.heap.size):
  Calls Tryz.prog 132 #[v] w fun e w'=>e=.returned (.bool (ascB ordR (fsts ps)))/\Below w.heap.size w w':=by
 have H:=hide (Zln v ps w hls hv);obtain⟨a,cap,rfl⟩:=hv.shape;clear hv
 go_enter Tryz.func132,Tryz.ntmps132
 go_wp2_with fail
 refine H.out.mono ?_
 rintro e w1 ⟨rfl,b1⟩
 go_wp2
 go_ret
 exact⟨rfl,b1⟩
theorem Zht {xs:List RecD}(h:¬xs.length<=150):ZaJ xs=false:=by unfold ZaJ;rw [decide_eq_false h];rfl
theorem Zjp {xs:List RecD}{k:Nat}(hk:k<xs.length)(h:okAt ZbH xs k=false):ZaJ xs=false:=by unfold ZaJ ZbO;rw [ZaH hk h];simp
theorem Zfw (v:Value)(ps:List RP)(w:World)(hn:tot ps<=1048576)(hv:Zbo w v ps w.heap.size):
  Calls Tryz.prog 92 #[v] w fun e w'=>e=.returned (.bool (ZaJ (fsts ps)))/\Below w.heap.size w w':=by
 have hnl:=Zca ps;obtain⟨a,cap,rfl⟩:=hv.shape;have HV:=hide hv;clear hv;have hfl:(fsts ps).length=ps.length:=by simp [fsts]
 by_cases hlong:(150:Int)<(ps.length:Int)
 ·have HF:=hide (Zht (xs:=fsts ps) (by omega))
  clear hfl
  go_enter Tryz.func92,Tryz.ntmps92
  go_wp2
  go_ret
  exact⟨Zag HF.out,Below.refl _ _⟩
 have HFL:=hide hfl;clear hfl
 go_enter Tryz.func92,Tryz.ntmps92
 go_wp2
 go_loopw [10] (fun i wr=>∃ k:Nat,k<=ps.length/\i=.int .i64 k/\(∀ j,j<k->okAt ZbH (fsts ps) j=true)/\Below w.heap.size w wr) (fun i _=>ps.length-(intOf i).toNat)
 case atStart=>exact ⟨0,by omega,rfl,by omega,Below.refl _ _⟩
 case round=>
  obtain⟨k,hk,rfl,hall,hnx⟩:=hrel;have HALL:=hide hall;clear hall;have hsz:=hnx.size;by_cases hlt:k<ps.length
  ·obtain ⟨p,hp⟩:∃ p,ps[k]? = some p:=⟨ps[k],List.getElem?_eq_getElem hlt⟩
   obtain⟨b,off,cap',hve,hbb,c0,c1,c2,c3,c4,c5,c6,c7,hnr⟩:=HV.out.cells k p hp;cases hve
   rw [<-hnx.cell (p:=⟨b,off+k*8,none⟩) hbb] at c0;rw [<-hnx.cell (p:=⟨b,off+k*8+1,none⟩) hbb] at c1;rw [<-hnx.cell (p:=⟨b,off+k*8+2,none⟩) hbb] at c2;rw [<-hnx.cell (p:=⟨b,off+k*8+3,none⟩) hbb] at c3;rw [<-hnx.cell (p:=⟨b,off+k*8+4,none⟩) hbb] at c4;rw [<-hnx.cell (p:=⟨b,off+k*8+5,none⟩) hbb] at c5;rw [<-hnx.cell (p:=⟨b,off+k*8+6,none⟩) hbb] at c6;rw [<-hnx.cell (p:=⟨b,off+k*8+7,none⟩) hbb] at c7;have hnr2:=(ZaL.later hnr hnx (Nat.le_refl _)).more hnx.size;obtain⟨pa,pc,hpn⟩:=ZaB.shape hnr;have HOK:=fun o=>ZlO p.2 p.1 (wr.alloc o) (by have:=Zez (List.mem_of_getElem? hp);omega) (ZaL.then hnr2 ((Below.refl _ _).alloc (Nat.le_refl _) o))
   unfold recC at HOK;rw [hpn] at c5 HOK;have HAT:=Zb2 (ok:=ZbH) (Zbw hp);obtain⟨q,hq⟩:∃ q,q=ZbH p.1:=⟨_,rfl⟩;rw [<-hq] at HOK HAT;have HOK2:=hide HOK;have HAT2:=hide HAT;clear hp hnr hnr2 hpn HOK HAT hq;have hki:(0:Int)<=(k:Int):=by omega
   have hkj:(k:Int)<(ps.length:Int):=by omega
   go_wp2_with fail
   refine (HOK2.out _).mono ?_
   rintro e w2 ⟨rfl,b2⟩;have B2:Below w.heap.size w w2:=(hnx.alloc hsz _).trans (b2.mono (by simp;omega))
   cases q
   ·have HF:=hide (Zjp (by rw [HFL.out];exact hlt) HAT2.out)
    go_wp2
    go_ret
    exact⟨Zag HF.out,B2⟩
   ·go_wp2
    go_roundw
    case rel=>exact ⟨k+1,by omega,by go_num,ZaE HALL.out HAT2.out,B2⟩
    case measure=>simp [intOf];omega
  ·have e1:ZbO ZbH (fsts ps)=true:=Zbl fun i hi=>HALL.out i (by have:=HFL.out;omega)
   have e2:ZaJ (fsts ps)=ascB ordR (fsts ps):=by
    unfold ZaJ;rw [e1,decide_eq_true (by have:=HFL.out;omega)]
    rfl
   have HE:=hide e2;have HIO:=hide (Zj6 (.slice a ps.length cap) ps wr (by omega) ((HV.out.later hnx (Nat.le_refl _)).more hsz))
   clear e1 e2
   go_wp2_with fail
   refine HIO.out.mono ?_
   rintro e w2 ⟨rfl,b2⟩
   go_wp2
   go_ret
   exact⟨Zag HE.out,hnx.trans (b2.mono hsz)⟩
def Zcw (x:SelfD)(ps:List RP):Bool:=Zbq x.net&&(inB x.id 1 x.net.n&&(inB x.boot 0 90&&(Zc8 x.net.ls x.id x.heard&&ZaJ (fsts ps))))
theorem Zek (v1 v2 v3 v4:Value)(x:SelfD)(ps:List RP)(w:World)(ht:totS x ps<=1048576)(hv:SelfIn w v1 v2 v3 v4 x ps w.heap.size):
  Calls Tryz.prog 51 #[Zfp x v1 v2 v3 v4] w fun e w'=>e=.returned (.bool (Zcw x ps))/\Below w.heap.size w w':=by
 obtain⟨⟨a1,c1,rfl⟩,⟨a2,c2,rfl⟩,⟨a3,c3,rfl⟩,⟨a4,c4,rfl⟩⟩:=hv.shapes;have hlL:x.net.ls.length<=1048576:=by unfold totS at ht;omega
 have hlT:x.net.ts.length<=1048576:=by unfold totS at ht;omega
 have hlH:x.heard.length<=1048576:=by unfold totS at ht;omega
 have hlR:tot ps<=1048576:=by unfold totS at ht;omega
 have HX:=hide hv;clear hv ht;have BA:Below w.heap.size w (w.alloc (.cells #[.int .i64 x.id,.int .i64 x.boot,.int .i64 x.net.n,.slice a1 x.net.ls.length c1,.slice a2 x.net.ts.length c2,.slice a3 x.heard.length c3,.slice a4 ps.length c4] 41)):=(Below.refl _ _).alloc (Nat.le_refl _) _;have g0:=heap_alloc_new w (.cells #[.int .i64 x.id,.int .i64 x.boot,.int .i64 x.net.n,.slice a1 x.net.ls.length c1,.slice a2 x.net.ts.length c2,.slice a3 x.heard.length c3,.slice a4 ps.length c4] 41);obtain⟨r1,h1⟩:∃ r,r=Zbq x.net:=⟨_,rfl⟩;obtain⟨r2,h2⟩:∃ r,r=inB x.id 1 x.net.n:=⟨_,rfl⟩;obtain⟨r3,h3⟩:∃ r,r=inB x.boot 0 90:=⟨_,rfl⟩;obtain⟨r4,h4⟩:∃ r,r=Zc8 x.net.ls x.id x.heard:=⟨_,rfl⟩;obtain⟨r5,h5⟩:∃ r,r=ZaJ (fsts ps):=⟨_,rfl⟩;have HS:=hide (show Zcw x ps=(r1&&(r2&&(r3&&(r4&&r5)))) by unfold Zcw;rw [h1,h2,h3,h4,h5])
 rw [HS.out];have HN:=hide (ZlJ _ x.net (w.alloc (.cells #[.int .i64 x.id,.int .i64 x.boot,.int .i64 x.net.n,.slice a1 x.net.ls.length c1,.slice a2 x.net.ts.length c2,.slice a3 x.heard.length c3,.slice a4 ps.length c4] 41)) hlL hlT (HX.out.then BA).net);have HI1:=hide (Za1 x.id 1 x.net.n);have HI2:=hide (Za1 x.boot 0 90);have HHD:=hide (fun W (hb:Below w.heap.size w W)  => Zj0 _ _ _ _ x ps W hlL hlH (HX.out.then hb))
 have HST:=hide (fun W (hb:Below w.heap.size w W)=>Zfw _ ps W hlR (HX.out.then hb).store)
 rw [<-h1] at HN;rw [<-h2] at HI1;rw [<-h3] at HI2;rw [<-h4] at HHD;rw [<-h5] at HST;have G0:=hide g0;clear h1 h2 h3 h4 h5 HS g0
 go_enter Tryz.func51,Tryz.ntmps51
 go_wp2_with fail
 obtain⟨w0,hw0⟩:∃ W,W=w.alloc (.cells #[.int .i64 x.id,.int .i64 x.boot,.int .i64 x.net.n,.slice a1 x.net.ls.length c1,.slice a2 x.net.ts.length c2,.slice a3 x.heard.length c3,.slice a4 ps.length c4] 41):=⟨_,rfl⟩;rw [<-hw0] at BA G0 HN |-;clear hw0;refine HN.out.mono ?_
 rintro e w1 ⟨rfl,b1⟩;have g1:=(b1.block _ (Zab G0.out)).trans G0.out;have B1:Below w.heap.size w w1:=BA.trans (b1.mono BA.size);cases r1
 ·go_wp2
  go_ret
  exact⟨rfl,B1⟩
 have s0:=Zaa g1 0;have s1:=Zaa g1 1;have s2:=Zaa g1 2;have s3:=Zaa g1 3;have s4:=Zaa g1 4;have s5:=Zaa g1 5;have s6:=Zaa g1 6;simp at s0 s1 s2 s3 s4 s5 s6
 have G1:=hide g1;clear g1 b1 HN
 go_wp2_with fail
 refine (HI1.out _).mono ?_
 rintro e w2 ⟨rfl,rfl⟩;cases r2
 ·go_wp2
  go_ret
  exact⟨rfl,B1⟩
 go_wp2_with fail
 refine (HI2.out _).mono ?_
 rintro e w2 ⟨rfl,rfl⟩;cases r3
 ·go_wp2
  go_ret
  exact⟨rfl,B1⟩
 go_wp2_with fail
 refine (HHD.out _ B1).mono ?_
 rintro e w3 ⟨rfl,b3⟩
 skip
 have g3:=(b3.block _ (Zab G1.out)).trans G1.out;have B3:Below w.heap.size w w3:=B1.trans (b3.mono B1.size);cases r4
 ·clear s0 s1 s2 s3 s4 s5 s6
  go_wp2
  go_ret
  exact⟨rfl,B3⟩
 clear s0 s1 s2 s3 s4 s5 s6;have s6:=Zaa g3 6;simp at s6
 clear g3 b3
 go_wp2_with fail
 refine (HST.out _ B3).mono ?_
 rintro e w4 ⟨rfl,b4⟩;have B4:Below w.heap.size w w4:=B3.trans (b4.mono B3.size);clear b4
 go_wp2
 go_ret
 exact⟨by simp,B4⟩
end Go.Proofs.YtnndlmodjkplnaaGreatDoor
