/-
  Parts.
-/
import Derived.Test.YtikloccefmofdaaGreatFi12
import Derived.Test.YtikloccefmofdaaGreatFi11
namespace Go.Proofs.YtikloccefmofdaaGreat
open Go.RowKit
set_option linter.unusedSimpArgs false
set_option linter.unusedVariables false
set_option maxRecDepth 100000
set_option maxHeartbeats 8000000
theorem ZjO (p l:Lk):ZbF p l=decide (ordL p l<0):=by
 simp only [ZbF,ordL,orN,cmpN];grind
theorem ZkH (p l:Th):ZbH p l=decide (ordT p l<0):=by
 simp only [ZbH,ordT,orN,cmpN];grind
theorem ZnH (v:Value)(x:NetD)(w:World)(hl:x.ls.length<=1048576)(ht:x.ts.length<=1048576)(hv:ZmR w v x w.heap.size):
  Calls Tryz.prog 21 #[v] w fun e w'=>e=.returned (.bool (Za0 x))/\Below w.heap.size w w':=by
 obtain⟨n,ls,ts⟩:=x;obtain⟨v1,v2,rfl,h1,h2⟩:=hv;simp only [] at h1 h2 hl ht |-
 obtain⟨a1,c1,rfl⟩:=h1.shape;obtain⟨a2,c2,rfl⟩:=h2.shape;obtain⟨q,hq⟩:∃ q,q=inB n 1 6:=⟨_,rfl⟩;have hin:=ZbU n 1 6;rw [<-hq] at hin;have HIN:=hide hin;have HQ:=hide hq;have H1:=hide h1;have H2:=hide h2;clear hin hq h1 h2;cases q
 ·have hno:Za0 ⟨n,ls,ts⟩=false:=by unfold Za0;simp only [];rw [<-HQ.out];simp
  rw [hno];clear hno
  go_enter Tryz.func21,Tryz.ntmps21
  go_wp2_with fail
  refine (HIN.out _).mono ?_;rintro e w1 ⟨rfl,rfl⟩;go_wp2;go_ret;exact⟨rfl,(YAC _ _).alloc (YA _) _⟩
 by_cases h12:ls.length<=12
 case neg=>
  have hno:Za0 ⟨n,ls,ts⟩=false:=by unfold Za0 Zb1;simp only [];rw [YAe h12];simp
  rw [hno];have h12':(12:Int)<(ls.length:Int):=by omega
  clear hno
  go_enter Tryz.func21,Tryz.ntmps21
  go_wp2_with fail
  refine (HIN.out _).mono ?_;rintro e w1 ⟨rfl,rfl⟩;go_wp2;go_ret;exact⟨rfl,(YAC _ _).alloc (YA _) _⟩
 by_cases h4:ts.length<=4
 case neg=>
  have hno:Za0 ⟨n,ls,ts⟩=false:=by unfold Za0 Zbt;simp only [];rw [YAe h4];simp
  rw [hno];have h4':(4:Int)<(ts.length:Int):=by omega
  clear hno
  go_enter Tryz.func21,Tryz.ntmps21
  go_wp2_with fail
  refine (HIN.out _).mono ?_;rintro e w1 ⟨rfl,rfl⟩;go_wp2;go_ret;exact⟨rfl,(YAC _ _).alloc (YA _) _⟩
 have h12':¬(12:Int)<(ls.length:Int):=by omega
 have h4':¬(4:Int)<(ts.length:Int):=by omega
 have hnet:Za0 ⟨n,ls,ts⟩=((ZbM (ZaP n) ls&&ascB ordL ls)&&(ZbM (Zc9 n) ts&&ascB ordT ts)):=by
  unfold Za0 Zb1 Zbt;simp only [];rw [<-HQ.out,YAT h12,YAT h4];simp
 have HNET:=hide hnet;clear hnet HQ h12 h4
 go_enter Tryz.func21,Tryz.ntmps21
 go_wp2_with fail
 refine (HIN.out _).mono ?_;rintro e w1 ⟨rfl,rfl⟩;go_wp2
 go_loopw [3] (fun i wr=>∃ k:Nat,k<=ls.length/\i=.int .i64 k/\(∀ j,j<k->okAt (ZaP n) ls j=true)/\(∀ j,j<k->Zce ordL ls j=true)/\Below w.heap.size w wr/\wr.heap[w.heap.size]? = some (.cells #[.int .i64 n,.slice a1 ls.length c1,.slice a2 ts.length c2] 27)) (fun i _=>ls.length-(intOf i).toNat)
 case atStart=>exact ⟨0,by omega,rfl,by omega,by omega,(YAC _ _).alloc (YA _) _,YAE w _⟩
 case round=>
  obtain⟨k,hk,rfl,hall,hasc,hnx,hx⟩:=hrel;have hxl:=Zab hx;have g0:=Zaa hx 0;have g1:=Zaa hx 1;have g2:=Zaa hx 2;simp at g0 g1 g2;have HALL:=hide hall;have HASC:=hide hasc;have HX:=hide hx;clear hall hasc hx;by_cases hlt:k<ls.length
  ·obtain ⟨l,hl⟩:∃ l,ls[k]? = some l:=⟨ls[k],YAA hlt⟩;obtain⟨b,off,cap',hve,hbb,s0,s1,s2,s3⟩:=H1.out.cells k l hl;cases hve;replace s0:=(hnx.cell hbb).trans s0;replace s1:=(hnx.cell hbb).trans s1;replace s2:=(hnx.cell hbb).trans s2;replace s3:=(hnx.cell hbb).trans s3;have hzr:=hnx.size;have hbr:b<wr.heap.size:=by omega
   have hki:(0:Int)<=(k:Int):=by omega
   have hkj:(k:Int)<(ls.length:Int):=by omega
   obtain⟨q1,hq1⟩:∃ q1,q1=ZaP n l:=⟨_,rfl⟩;have hok:=ZlJ n l;rw [<-hq1] at hok;unfold lkV at hok;have HOK:=hide hok;have HAT1:=hide ((Zck (ok:=ZaP n) hl).trans hq1.symm);have HL:=hide hl;clear hok hq1 hl;cases q1
   ·have hf:Za0 ⟨n,ls,ts⟩=false:=by rw [HNET.out];unfold ZbM;rw [ZaQ hlt HAT1.out];rfl
    have HF:=hide hf;clear hf;go_wp2;refine Zag (S:=(fun W=>W.cell? ⟨w.heap.size,0,none⟩=some (.int .i64 n)/\W.cell? ⟨w.heap.size,1,none⟩=some (.slice (some ⟨b,off,none⟩) ls.length c1)/\W.cell? ⟨b,off+k*4,none⟩=some (.int .i64 l.a)/\W.cell? ⟨b,off+k*4+1,none⟩=some (.int .i64 l.b)/\W.cell? ⟨b,off+k*4+2,none⟩=some (.int .i64 l.c)/\W.cell? ⟨b,off+k*4+3,none⟩=some (.int .i64 l.r))) (by kernel_rfl) 28 rfl ⟨g0,g1,s0,s1,s2,s3⟩ (fun ops hops hHeld=>?_)
    iterate 7 (refine TK 28 ?_;try simp only [putS])
    refine TC 7 ?_;intro K hK;go_simp;refine (HOK.out _).mono ?_;rintro e w1 ⟨rfl,hbc⟩;refine hK.out _ _ ?_ (fun hHeld2=>?_)
    ·refine ⟨?_,?_,?_,?_,?_,?_⟩ <;> (rw [hbc.cell (by assumption)];assumption)
    clear hK K
    try simp only [putS]
    iterate 2 (refine TK 28 ?_;try simp only [putS])
    iterate 17 (refine TS 28 ?_;try simp only [putS])
    refine TK 28 ?_
    try simp only [putS]
    refine wpAnyH_done (by rw [hops.out];kernel_rfl) ?_ _;clear hops ops;go_wp2;go_ret;exact⟨Zah HF.out,hnx.drew.trans (hbc.mono hnx.size)⟩
   by_cases hk0:k=0
   ·have hk1:¬(0:Int)<(k:Int):=by omega
    have hat2:Zce ordL ls k=true:=by rw [hk0];rfl
    have HAT2:=hide hat2;clear hat2 hk0;go_wp2;refine Zag (S:=(fun W=>W.cell? ⟨w.heap.size,0,none⟩=some (.int .i64 n)/\W.cell? ⟨w.heap.size,1,none⟩=some (.slice (some ⟨b,off,none⟩) ls.length c1)/\W.cell? ⟨b,off+k*4,none⟩=some (.int .i64 l.a)/\W.cell? ⟨b,off+k*4+1,none⟩=some (.int .i64 l.b)/\W.cell? ⟨b,off+k*4+2,none⟩=some (.int .i64 l.c)/\W.cell? ⟨b,off+k*4+3,none⟩=some (.int .i64 l.r))) (by kernel_rfl) 28 rfl ⟨g0,g1,s0,s1,s2,s3⟩ (fun ops hops hHeld=>?_)
    iterate 7 (refine TK 28 ?_;try simp only [putS])
    refine TC 7 ?_;intro K hK;go_simp;refine (HOK.out _).mono ?_;rintro e w1 ⟨rfl,hbc⟩;refine hK.out _ _ ?_ (fun hHeld2=>?_)
    ·refine ⟨?_,?_,?_,?_,?_,?_⟩ <;> (rw [hbc.cell (by assumption)];assumption)
    clear hK K
    try simp only [putS]
    iterate 3 (refine TK 28 ?_;try simp only [putS])
    refine TK 28 (v:=.bool false) ?_ (hy:=by intro W hW;(try dsimp only at hW);go_simp <;> (first | with_reducible rfl | (simp;omega) | omega))
    try simp only [putS]
    refine TK 28 ?_
    try simp only [putS]
    iterate 13 (refine TS 28 ?_;try simp only [putS])
    iterate 2 (refine TK 28 ?_;try simp only [putS])
    refine wpAnyH_done (by rw [hops.out];kernel_rfl) ?_ _;clear hops ops;have B1:Below w.heap.size w w1:=hnx.drew.trans (hbc.mono hnx.size);have hx1:w1.heap[w.heap.size]? = some (.cells #[.int .i64 n,.slice (some ⟨b,off,none⟩) ls.length c1,.slice a2 ts.length c2] 27):=by rw [hbc.block _ hxl];exact HX.out
    have HX1:=hide hx1;clear hx1;go_wp2;exact⟨⟨k+1,by omega,by go_num,ZaO HALL.out HAT1.out,ZaO HASC.out HAT2.out,B1,HX1.out⟩,by simp [intOf];omega⟩
   ·obtain ⟨j,hj⟩:∃ j,k=j+1:=⟨k-1,by omega⟩;obtain⟨p,hp⟩:∃ p,ls[j]? = some p:=⟨ls[j],YAA (by omega)⟩;obtain⟨b',off',cap2,hve2,hbb2,t0,t1,t2,t3⟩:=H1.out.cells j p hp;cases hve2;replace t0:=(hnx.cell hbb).trans t0;replace t1:=(hnx.cell hbb).trans t1;replace t2:=(hnx.cell hbb).trans t2;replace t3:=(hnx.cell hbb).trans t3;obtain⟨q2,hq2⟩:∃ q2,q2=ZbF p l:=⟨_,rfl⟩;have hah:=Zgj p l;rw [<-hq2] at hah;unfold lkV at hah;have HAH:=hide hah;have hat2:Zce ordL ls k=q2:=by rw [hj,hq2,ZjO];exact ZbX hp (by rw [<-hj];exact HL.out)
    have HAT2:=hide hat2;have hj1:(k:Int)-1=(j:Int):=by omega
    have hj2:(0:Int)<=(j:Int):=by omega
    have hj3:(j:Int)<(ls.length:Int):=by omega
    have hj4:(0:Int)<(k:Int):=by omega
    have hj5:IntKind.i64.wrap (j:Int)=(j:Int):=ZaH _ (by omega) (by omega);clear hah hq2 hp hat2 hj hk0 hbb2;go_wp2;refine Zag (S:=(fun W=>W.cell? ⟨w.heap.size,0,none⟩=some (.int .i64 n)/\W.cell? ⟨w.heap.size,1,none⟩=some (.slice (some ⟨b,off,none⟩) ls.length c1)/\W.cell? ⟨b,off+k*4,none⟩=some (.int .i64 l.a)/\W.cell? ⟨b,off+k*4+1,none⟩=some (.int .i64 l.b)/\W.cell? ⟨b,off+k*4+2,none⟩=some (.int .i64 l.c)/\W.cell? ⟨b,off+k*4+3,none⟩=some (.int .i64 l.r)/\W.cell? ⟨b,off+j*4,none⟩=some (.int .i64 p.a)/\W.cell? ⟨b,off+j*4+1,none⟩=some (.int .i64 p.b)/\W.cell? ⟨b,off+j*4+2,none⟩=some (.int .i64 p.c)/\W.cell? ⟨b,off+j*4+3,none⟩=some (.int .i64 p.r))) (by kernel_rfl) 28 rfl ⟨g0,g1,s0,s1,s2,s3,t0,t1,t2,t3⟩ (fun ops hops hHeld=>?_)
    iterate 7 (refine TK 28 ?_;try simp only [putS])
    refine TC 7 ?_;intro K hK;go_simp;refine (HOK.out _).mono ?_;rintro e w1 ⟨rfl,hbc⟩;refine hK.out _ _ ?_ (fun hHeld2=>?_)
    ·refine ⟨?_,?_,?_,?_,?_,?_,?_,?_,?_,?_⟩ <;> (rw [hbc.cell (by assumption)];assumption)
    clear hK K
    try simp only [putS]
    iterate 3 (refine TK 28 ?_;try simp only [putS])
    refine TK 28 (v:=.bool true) ?_ (hy:=by intro W hW;(try dsimp only at hW);go_simp <;> (first | with_reducible rfl | (simp;omega) | omega))
    try simp only [putS]
    iterate 12 (refine TK 28 ?_;try simp only [putS])
    refine TC 24 ?_;intro K hK;go_simp;refine (HAH.out _).mono ?_;rintro e w2 ⟨rfl,hbc2⟩;refine hK.out _ _ ?_ (fun hHeld3=>?_)
    ·refine ⟨?_,?_,?_,?_,?_,?_,?_,?_,?_,?_⟩ <;> (rw [hbc2.cell (YAB (by assumption) hbc.size),hbc.cell (by assumption)];assumption)
    clear hK K
    try simp only [putS]
    iterate 3 (refine TK 28 ?_;try simp only [putS])
    refine wpAnyH_done (by rw [hops.out];kernel_rfl) ?_ _;clear hops ops;have B1:Below w.heap.size w w1:=hnx.drew.trans (hbc.mono hnx.size);have B2:Below w.heap.size w w2:=B1.trans (hbc2.mono B1.size);have hx2:w2.heap[w.heap.size]? = some (.cells #[.int .i64 n,.slice (some ⟨b,off,none⟩) ls.length c1,.slice a2 ts.length c2] 27):=by rw [hbc2.block _ (YAB hxl hbc.size),hbc.block _ hxl];exact HX.out
    have HX2:=hide hx2;clear hx2;cases q2
    ·have hf:Za0 ⟨n,ls,ts⟩=false:=by rw [HNET.out];unfold ascB;rw [ZaQ hlt HAT2.out];simp
     have HF:=hide hf;clear hf;go_wp2;go_ret;exact⟨Zah HF.out,B2⟩
    ·go_wp2;exact⟨⟨k+1,by omega,by go_num,ZaO HALL.out HAT1.out,ZaO HASC.out HAT2.out,B2,HX2.out⟩,by simp [intOf];omega⟩
  ·have hnet2:Za0 ⟨n,ls,ts⟩=(ZbM (Zc9 n) ts&&ascB ordT ts):=by
    have e1:ZbM (ZaP n) ls=true:=Za4 fun i hi=>HALL.out i (by omega);have e2:ascB ordL ls=true:=Za4 fun i hi=>HASC.out i (by omega);rw [HNET.out,e1,e2];simp
   have HNET2:=hide hnet2;clear hnet2 HNET HALL HASC;obtain⟨wo,rfl⟩:∃ wo:World,wo=wr:=⟨_,rfl⟩;go_wp2;clear hlt hk
   go_loopw [4] (fun i wr=>∃ k:Nat,k<=ts.length/\i=.int .i64 k/\(∀ j,j<k->okAt (Zc9 n) ts j=true)/\(∀ j,j<k->Zce ordT ts j=true)/\Below w.heap.size w wr/\wr.heap[w.heap.size]? = some (.cells #[.int .i64 n,.slice a1 ls.length c1,.slice a2 ts.length c2] 27)) (fun i _=>ts.length-(intOf i).toNat)
   case atStart=>exact ⟨0,by omega,rfl,by omega,by omega,hnx,HX.out⟩
   case round=>
    clear hnx HX g0 g1 g2 hxl;obtain⟨k,hk,rfl,hall,hasc,hnx,hx⟩:=hrel;have hxl:=Zab hx;have g0:=Zaa hx 0;have g2:=Zaa hx 2;simp at g0 g2;have HALL:=hide hall;have HASC:=hide hasc;have HX:=hide hx;clear hall hasc hx;by_cases hlt:k<ts.length
    ·obtain ⟨l,hl⟩:∃ l,ts[k]? = some l:=⟨ts[k],YAA hlt⟩;obtain⟨b,off,cap',hve,hbb,s0,s1,s2,s3⟩:=H2.out.cells k l hl;cases hve;replace s0:=(hnx.cell hbb).trans s0;replace s1:=(hnx.cell hbb).trans s1;replace s2:=(hnx.cell hbb).trans s2;replace s3:=(hnx.cell hbb).trans s3;have hzr:=hnx.size;have hbr:b<wr.heap.size:=by omega
     have hki:(0:Int)<=(k:Int):=by omega
     have hkj:(k:Int)<(ts.length:Int):=by omega
     obtain⟨qk,hqk⟩:∃ q,q=inB l.k 1 9:=⟨_,rfl⟩;obtain⟨qo,hqo⟩:∃ q,q=inB l.o 1 n:=⟨_,rfl⟩;obtain⟨qc,hqc⟩:∃ q,q=inB l.c 1 1000:=⟨_,rfl⟩;have hok:Zc9 n l=(qk&&qo&&qc):=by unfold Zc9;rw [hqk,hqo,hqc]
     have HIK:=hide (ZbU l.k 1 9);have HIO:=hide (ZbU l.o 1 n);have HIC:=hide (ZbU l.c 1 1000);rw [<-hqk] at HIK;rw [<-hqo] at HIO;rw [<-hqc] at HIC;have HAT1:=hide ((Zck (ok:=Zc9 n) hl).trans hok);have HL:=hide hl;clear hqk hqo hqc hok hl;obtain⟨wq,hwq⟩:∃ wq:World,wq=wr.alloc (.cells #[.int .i64 l.o,.int .i64 l.k,.int .i64 l.c,.bool l.f] 65):=⟨_,rfl⟩;have BW:Below w.heap.size w wq:=by rw [hwq];exact hnx.alloc hnx.size _
     have BR:Below wr.heap.size wr wq:=by rw [hwq];exact (YAC _ _).alloc (YA _) _
     have hb0:wq.heap[wr.heap.size]? = some (.cells #[.int .i64 l.o,.int .i64 l.k,.int .i64 l.c,.bool l.f] 65):=by rw [hwq];exact YAE wr _
     have hx9:wq.heap[w.heap.size]? = some (.cells #[.int .i64 n,.slice a1 ls.length c1,.slice (some ⟨b,off,none⟩) ts.length c2] 27):=by rw [hwq,YAH _ _ _ hxl];exact HX.out
     go_wp2;rw [<-hwq];have g0:=Zaa hx9 0;have g2:=Zaa hx9 2;have e0:=Zaa hb0 0;have e1:=Zaa hb0 1;have e2:=Zaa hb0 2;have e3:=Zaa hb0 3;have hxq:=Zab hx9;have hzq:=Zab hb0;have hbq:b<wq.heap.size:=by omega
     simp at g0 g2 e0 e1 e2 e3;have HX9:=hide hx9;obtain⟨z,hz⟩:∃ z,z=wr.heap.size:=⟨_,rfl⟩;rw [<-hz] at e0 e1 e2 e3 hzq |-;have HBR:=hide BR;clear hb0 hx9 hwq hz BR s0 s1 s2 s3;cases qo
     ·have hf:Za0 ⟨n,ls,ts⟩=false:=by rw [HNET2.out];unfold ZbM;rw [ZaQ hlt (HAT1.out.trans (by simp))];rfl
      have HF:=hide hf;clear hf;refine Zag (S:=(fun W=>W.cell? ⟨w.heap.size,0,none⟩=some (.int .i64 n)/\W.cell? ⟨w.heap.size,2,none⟩=some (.slice (some ⟨b,off,none⟩) ts.length c2)/\W.cell? ⟨z,0,none⟩=some (.int .i64 l.o)/\W.cell? ⟨z,1,none⟩=some (.int .i64 l.k)/\W.cell? ⟨z,2,none⟩=some (.int .i64 l.c)/\W.cell? ⟨z,3,none⟩=some (.bool l.f))) (by kernel_rfl) 33 rfl ⟨g0,g2,e0,e1,e2,e3⟩ (fun ops hops hHeld=>?_)
      iterate 4 (refine TK 33 ?_;try simp only [putS])
      refine TC 4 ?_;intro K hK;go_simp;refine (HIO.out _).mono ?_;rintro e w1 ⟨rfl,rfl⟩;refine hK.out _ _ hHeld (fun _=>?_);clear hK K
      try simp only [putS]
      iterate 2 (refine TK 33 ?_;try simp only [putS])
      iterate 4 (refine TS 33 ?_;try simp only [putS])
      iterate 2 (refine TK 33 ?_;try simp only [putS])
      iterate 4 (refine TS 33 ?_;try simp only [putS])
      iterate 2 (refine TK 33 ?_;try simp only [putS])
      iterate 13 (refine TS 33 ?_;try simp only [putS])
      refine TK 33 ?_
      try simp only [putS]
      refine wpAnyH_done (by rw [hops.out];kernel_rfl) ?_ _;clear hops ops;go_wp2;go_ret;exact⟨Zah HF.out,BW.drew⟩
     cases qk
     ·have hf:Za0 ⟨n,ls,ts⟩=false:=by rw [HNET2.out];unfold ZbM;rw [ZaQ hlt (HAT1.out.trans (by simp))];rfl
      have HF:=hide hf;clear hf;refine Zag (S:=(fun W=>W.cell? ⟨w.heap.size,0,none⟩=some (.int .i64 n)/\W.cell? ⟨w.heap.size,2,none⟩=some (.slice (some ⟨b,off,none⟩) ts.length c2)/\W.cell? ⟨z,0,none⟩=some (.int .i64 l.o)/\W.cell? ⟨z,1,none⟩=some (.int .i64 l.k)/\W.cell? ⟨z,2,none⟩=some (.int .i64 l.c)/\W.cell? ⟨z,3,none⟩=some (.bool l.f))) (by kernel_rfl) 33 rfl ⟨g0,g2,e0,e1,e2,e3⟩ (fun ops hops hHeld=>?_)
      iterate 4 (refine TK 33 ?_;try simp only [putS])
      refine TC 4 ?_;intro K hK;go_simp;refine (HIO.out _).mono ?_;rintro e w1 ⟨rfl,rfl⟩;refine hK.out _ _ hHeld (fun _=>?_);clear hK K
      try simp only [putS]
      iterate 4 (refine TK 33 ?_;try simp only [putS])
      refine TC 9 ?_;intro K hK;go_simp;refine (HIK.out _).mono ?_;rintro e w1 ⟨rfl,rfl⟩;refine hK.out _ _ hHeld (fun _=>?_);clear hK K
      try simp only [putS]
      iterate 3 (refine TK 33 ?_;try simp only [putS])
      iterate 4 (refine TS 33 ?_;try simp only [putS])
      iterate 2 (refine TK 33 ?_;try simp only [putS])
      iterate 13 (refine TS 33 ?_;try simp only [putS])
      refine TK 33 ?_
      try simp only [putS]
      refine wpAnyH_done (by rw [hops.out];kernel_rfl) ?_ _;clear hops ops;go_wp2;go_ret;exact⟨Zah HF.out,BW.drew⟩
     cases qc
     ·have hf:Za0 ⟨n,ls,ts⟩=false:=by rw [HNET2.out];unfold ZbM;rw [ZaQ hlt (HAT1.out.trans (by simp))];rfl
      have HF:=hide hf;clear hf;refine Zag (S:=(fun W=>W.cell? ⟨w.heap.size,0,none⟩=some (.int .i64 n)/\W.cell? ⟨w.heap.size,2,none⟩=some (.slice (some ⟨b,off,none⟩) ts.length c2)/\W.cell? ⟨z,0,none⟩=some (.int .i64 l.o)/\W.cell? ⟨z,1,none⟩=some (.int .i64 l.k)/\W.cell? ⟨z,2,none⟩=some (.int .i64 l.c)/\W.cell? ⟨z,3,none⟩=some (.bool l.f))) (by kernel_rfl) 33 rfl ⟨g0,g2,e0,e1,e2,e3⟩ (fun ops hops hHeld=>?_)
      iterate 4 (refine TK 33 ?_;try simp only [putS])
      refine TC 4 ?_;intro K hK;go_simp;refine (HIO.out _).mono ?_;rintro e w1 ⟨rfl,rfl⟩;refine hK.out _ _ hHeld (fun _=>?_);clear hK K
      try simp only [putS]
      iterate 4 (refine TK 33 ?_;try simp only [putS])
      refine TC 9 ?_;intro K hK;go_simp;refine (HIK.out _).mono ?_;rintro e w1 ⟨rfl,rfl⟩;refine hK.out _ _ hHeld (fun _=>?_);clear hK K
      try simp only [putS]
      iterate 5 (refine TK 33 ?_;try simp only [putS])
      refine TC 15 ?_;intro K hK;go_simp;refine (HIC.out _).mono ?_;rintro e w1 ⟨rfl,rfl⟩;refine hK.out _ _ hHeld (fun _=>?_);clear hK K
      try simp only [putS]
      iterate 3 (refine TK 33 ?_;try simp only [putS])
      iterate 13 (refine TS 33 ?_;try simp only [putS])
      refine TK 33 ?_
      try simp only [putS]
      refine wpAnyH_done (by rw [hops.out];kernel_rfl) ?_ _;clear hops ops;go_wp2;go_ret;exact⟨Zah HF.out,BW.drew⟩
     by_cases hk0:k=0
     ·have hk1:¬(0:Int)<(k:Int):=by omega
      have hat2:Zce ordT ts k=true:=by rw [hk0];rfl
      have HAT2:=hide hat2;clear hat2 hk0;refine Zag (S:=(fun W=>W.cell? ⟨w.heap.size,0,none⟩=some (.int .i64 n)/\W.cell? ⟨w.heap.size,2,none⟩=some (.slice (some ⟨b,off,none⟩) ts.length c2)/\W.cell? ⟨z,0,none⟩=some (.int .i64 l.o)/\W.cell? ⟨z,1,none⟩=some (.int .i64 l.k)/\W.cell? ⟨z,2,none⟩=some (.int .i64 l.c)/\W.cell? ⟨z,3,none⟩=some (.bool l.f))) (by kernel_rfl) 33 rfl ⟨g0,g2,e0,e1,e2,e3⟩ (fun ops hops hHeld=>?_)
      iterate 4 (refine TK 33 ?_;try simp only [putS])
      refine TC 4 ?_;intro K hK;go_simp;refine (HIO.out _).mono ?_;rintro e w1 ⟨rfl,rfl⟩;refine hK.out _ _ hHeld (fun _=>?_);clear hK K
      try simp only [putS]
      iterate 4 (refine TK 33 ?_;try simp only [putS])
      refine TC 9 ?_;intro K hK;go_simp;refine (HIK.out _).mono ?_;rintro e w1 ⟨rfl,rfl⟩;refine hK.out _ _ hHeld (fun _=>?_);clear hK K
      try simp only [putS]
      iterate 5 (refine TK 33 ?_;try simp only [putS])
      refine TC 15 ?_;intro K hK;go_simp;refine (HIC.out _).mono ?_;rintro e w1 ⟨rfl,rfl⟩;refine hK.out _ _ hHeld (fun _=>?_);clear hK K
      try simp only [putS]
      iterate 4 (refine TK 33 ?_;try simp only [putS])
      refine TK 33 (v:=.bool false) ?_ (hy:=by intro W hW;(try dsimp only at hW);go_simp <;> (first | with_reducible rfl | (simp;omega) | omega))
      try simp only [putS]
      refine TK 33 ?_
      try simp only [putS]
      iterate 9 (refine TS 33 ?_;try simp only [putS])
      iterate 2 (refine TK 33 ?_;try simp only [putS])
      refine wpAnyH_done (by rw [hops.out];kernel_rfl) ?_ _;clear hops ops;go_wp2;exact⟨⟨k+1,by omega,by go_num,ZaO HALL.out HAT1.out,ZaO HASC.out HAT2.out,BW.drew,HX9.out⟩,by simp [intOf];omega⟩
     ·obtain ⟨j,hj⟩:∃ j,k=j+1:=⟨k-1,by omega⟩;obtain⟨p,hp⟩:∃ p,ts[j]? = some p:=⟨ts[j],YAA (by omega)⟩;obtain⟨b',off',cap2,hve2,hbb2,t0,t1,t2,t3⟩:=H2.out.cells j p hp;cases hve2;replace t0:=(BW.cell hbb).trans t0;replace t1:=(BW.cell hbb).trans t1;replace t2:=(BW.cell hbb).trans t2;replace t3:=(BW.cell hbb).trans t3;obtain⟨q2,hq2⟩:∃ q2,q2=ZbH p l:=⟨_,rfl⟩;have hah:=Zgk p l;rw [<-hq2] at hah;unfold thV at hah;have HAH:=hide hah;have hat2:Zce ordT ts k=q2:=by rw [hj,hq2,ZkH];exact ZbX hp (by rw [<-hj];exact HL.out)
      have HAT2:=hide hat2;have hj1:(k:Int)-1=(j:Int):=by omega
      have hj2:(0:Int)<=(j:Int):=by omega
      have hj3:(j:Int)<(ts.length:Int):=by omega
      have hj4:(0:Int)<(k:Int):=by omega
      have hj5:IntKind.i64.wrap (j:Int)=(j:Int):=ZaH _ (by omega) (by omega);clear hah hq2 hp hat2 hj hk0 hbb2;refine Zag (S:=(fun W=>W.cell? ⟨w.heap.size,0,none⟩=some (.int .i64 n)/\W.cell? ⟨w.heap.size,2,none⟩=some (.slice (some ⟨b,off,none⟩) ts.length c2)/\W.cell? ⟨z,0,none⟩=some (.int .i64 l.o)/\W.cell? ⟨z,1,none⟩=some (.int .i64 l.k)/\W.cell? ⟨z,2,none⟩=some (.int .i64 l.c)/\W.cell? ⟨z,3,none⟩=some (.bool l.f)/\W.cell? ⟨b,off+j*4,none⟩=some (.int .i64 p.o)/\W.cell? ⟨b,off+j*4+1,none⟩=some (.int .i64 p.k)/\W.cell? ⟨b,off+j*4+2,none⟩=some (.int .i64 p.c)/\W.cell? ⟨b,off+j*4+3,none⟩=some (.bool p.f))) (by kernel_rfl) 33 rfl ⟨g0,g2,e0,e1,e2,e3,t0,t1,t2,t3⟩ (fun ops hops hHeld=>?_)
      iterate 4 (refine TK 33 ?_;try simp only [putS])
      refine TC 4 ?_;intro K hK;go_simp;refine (HIO.out _).mono ?_;rintro e w1 ⟨rfl,rfl⟩;refine hK.out _ _ hHeld (fun _=>?_);clear hK K
      try simp only [putS]
      iterate 4 (refine TK 33 ?_;try simp only [putS])
      refine TC 9 ?_;intro K hK;go_simp;refine (HIK.out _).mono ?_;rintro e w1 ⟨rfl,rfl⟩;refine hK.out _ _ hHeld (fun _=>?_);clear hK K
      try simp only [putS]
      iterate 5 (refine TK 33 ?_;try simp only [putS])
      refine TC 15 ?_;intro K hK;go_simp;refine (HIC.out _).mono ?_;rintro e w1 ⟨rfl,rfl⟩;refine hK.out _ _ hHeld (fun _=>?_);clear hK K
      try simp only [putS]
      iterate 4 (refine TK 33 ?_;try simp only [putS])
      refine TK 33 (v:=.bool true) ?_ (hy:=by intro W hW;(try dsimp only at hW);go_simp <;> (first | with_reducible rfl | (simp;omega) | omega))
      try simp only [putS]
      iterate 8 (refine TK 33 ?_;try simp only [putS])
      refine TC 29 ?_;intro K hK;go_simp;refine (HAH.out _).mono ?_;rintro e w2 ⟨rfl,hbc2⟩;refine hK.out _ _ ?_ (fun hHeld3=>?_)
      ·refine ⟨?_,?_,?_,?_,?_,?_,?_,?_,?_,?_⟩ <;> (rw [hbc2.cell (by assumption)];assumption)
      clear hK K
      try simp only [putS]
      iterate 3 (refine TK 33 ?_;try simp only [putS])
      refine wpAnyH_done (by rw [hops.out];kernel_rfl) ?_ _;clear hops ops;have B2:Below w.heap.size w w2:=BW.drew.trans (hbc2.mono BW.size);have hx2:w2.heap[w.heap.size]? = some (.cells #[.int .i64 n,.slice a1 ls.length c1,.slice (some ⟨b,off,none⟩) ts.length c2] 27):=by rw [hbc2.block _ hxq];exact HX9.out
      have HX2:=hide hx2;clear hx2;cases q2
      ·have hf:Za0 ⟨n,ls,ts⟩=false:=by rw [HNET2.out];unfold ascB;rw [ZaQ hlt HAT2.out];simp
       have HF:=hide hf;clear hf;go_wp2;go_ret;exact⟨Zah HF.out,B2⟩
      ·go_wp2;exact⟨⟨k+1,by omega,by go_num,ZaO HALL.out HAT1.out,ZaO HASC.out HAT2.out,B2,HX2.out⟩,by simp [intOf];omega⟩
    ·have hfin:Za0 ⟨n,ls,ts⟩=true:=by
      have e1:ZbM (Zc9 n) ts=true:=Za4 fun i hi=>HALL.out i (by omega);have e2:ascB ordT ts=true:=Za4 fun i hi=>HASC.out i (by omega);rw [HNET2.out,e1,e2];rfl
     have HFIN:=hide hfin;clear hfin;go_wp2;go_ret;exact⟨Zah HFIN.out,hnx⟩
theorem Znf (base g cap n m i vb:Nat)(ps:List WP)(r:WP)(w:World)(hnp:n=ps.length)(hm:m=1)(hrow:w.ownsRow base 108 3 (.slice (some ⟨g,0,none⟩) n cap) n (flat encW ps))(hi:i<n)(hroom:n+m<=cap)
  (hvb:w.heap[vb]? = some (.cells (encW r).toArray 108 (0,0))) (hne:vb≠g) (hone:∀ p∈ps,∃ a k c,p.2=.slice a k c) (hr1:∀ u∈encW r,u.oneCell'=true):
  Calls Tryz.prog 127 #[.slice (some ⟨g,0,none⟩) n cap,.int .i64 (i:Int),.slice (some ⟨vb,0,none⟩) m 1] w fun e w'=>∃ v,e=.returned v/\w'.ownsRow base 108 3 v (n+m) (flat encW (ps.take i++[r]++ps.drop i))/\w.grownBy w' (some g)/\(v.ownBlock=some g\/v.ownBlock=some w.heap.size):=by
 have hnl:(flat encW ps).length=n*3:=hrow.1;have hui:=Tryz.underlying102;have hus:=Tryz.underlying102;obtain⟨i0,hi0,hz0,hzs,hzb⟩:=info_parts Tryz.infoWay;have hsz:(Tryz.prog.info? 108).map (·.size)=some 3:=by rw [hi0];simp [hzs]
 rcases hrow.2 with ⟨h0,_⟩ | ⟨g',cap',cur,hv,hbg,hg,hnc,hcm,hcs,htk⟩
 ·simp at h0
 simp at hv;obtain⟨rfl,rfl⟩:=hv;have hmx:maxLen=9223372036854775807\/maxLen<=9223372036854775807:=by unfold maxLen;omega
 have hc63:cap<=9223372036854775807:=by omega
 have hD:(flat encW (ps.drop i)).length=(n-i)*3:=by rw [ZaD Zbg,YAi, <-hnp]
 have hclen:cur.toList.length=cap*3:=by simpa using hcs
 have hRl:(encW r).length=3:=Zbg r;have hov:∀ lb cb,(callFunc 151 #[.slice (some ⟨vb,0,none⟩) m 1,.slice (some ⟨g,(i+m)*3,none⟩) lb cb]).run Tryz.prog w=.ok (.value (.bool false)) w:=fun lb cb=>by
  rw [run_callFunc_extern Tryz.func151 (by kernel_rfl) (by kernel_rfl) (by kernel_rfl) (e:=Extern.SlicesOverlaps.overlaps #[102,102] #[4]) (by kernel_rfl),
   Lib.run_overlaps_apart w 102 4 108 hus 3 (by intro w;simp [Go.sizeOf,typeInfo,hi0,hzs]) ⟨vb,0,none⟩ ⟨g,(i+m)*3,none⟩ m 1 lb cb hne 108 108 3 cur.size (by simp [World.shape?,hvb,hRl]) (by simp [World.shape?,hg]) (by omega) (Zae hvb 0) (Zae hvb 3)]
  rfl
 have hcell:∀ (W:World),W.heap=w.heap->∀ j u,(flat encW (ps.drop i))[j]? = some u->W.cell? ((⟨g,i*3,none⟩:Addr).add j)=some u:=fun W hW j u hj=>by
  rw [add8];simp only [World.cell?,hW,hg];rw [<-Zh2 ps i (by omega), <-htk,List.getElem?_drop] at hj;have h2:i*3+j<n*3:=by
   have h3:=(YAD.1 hj).1;rw [YAV] at h3;omega
  rw [YAn h2] at hj;simpa using hj
 have hcp1:∀ (W:World),W.heap=w.heap->∀ ty dc sc,(Builtin.copy_ #[102,102] ty #[.slice (some ⟨g,(i+m)*3,none⟩) (n+m-(i+m)) dc,.slice (some ⟨g,i*3,none⟩) (n+m-i) sc]).run Tryz.prog W=.ok (goInt (Nat.min (n+m-i) (n+m-(i+m)))) (W.setRow g (cur.toList.take ((i+m)*3)++flat encW (ps.drop i)++cur.toList.drop ((i+m)*3+(flat encW (ps.drop i)).length)).toArray):=fun W hW ty dc sc=>
  ZaT W 102 102 ty 108 g ((i+m)*3) (n+m-(i+m)) dc ⟨g,i*3,none⟩ (n+m-i) sc 3 cur 108 (flat encW (ps.drop i)) hui hsz (by rw [hW];exact hg)
   (by rw [hD];congr 1;have:Nat.min (n+m-i) (n+m-(i+m))=n+m-(i+m):=Nat.min_eq_right (by omega);omega) (hcell W hW) (by rw [hD];omega) (Zfw _ (fun p hp=>hone p (List.mem_of_mem_drop hp)))
 obtain⟨c1,hc1⟩:∃ c1,c1=cur.toList.take ((i+m)*3)++flat encW (ps.drop i)++cur.toList.drop ((i+m)*3+(flat encW (ps.drop i)).length):=⟨_,rfl⟩;rw [<-hc1] at hcp1;have hc1l:c1.length=cap*3:=by rw [hc1];simp only [YAN,YAV,YAi,hclen,hD];omega
 have hcp2:∀ (W:World),W.heap=(w.setRow g c1.toArray).heap->∀ ty dc,(Builtin.copy_ #[102,102] ty #[.slice (some ⟨g,i*3,none⟩) (n+m-i) dc,.slice (some ⟨vb,0,none⟩) m 1]).run Tryz.prog W=.ok (goInt (Nat.min m (n+m-i))) (W.setRow g (c1.take (i*3)++encW r++c1.drop (i*3+(encW r).length)).toArray):=fun W hW ty dc=>by
  have h:=ZaT (P:=Tryz.prog) W 102 102 ty 108 g (i*3) (n+m-i) dc ⟨vb,0,none⟩ m 1 3 c1.toArray 108 (encW r) hui hsz (by rw [hW];exact setRow_heap w g cur _ 108 _ hg)
   (by rw [hRl];have:Nat.min m (n+m-i)=m:=YAQ (by omega);omega) (fun j u hj=>by
    rw [add8];simp only [World.cell?,hW];rw [setRow_other w g vb _ hne,hvb];simpa using hj) (by rw [hRl];simp only [List.size_toArray,hc1l];omega) hr1
  simpa using h
 have hfin:c1.take (i*3)++encW r++c1.drop (i*3+(encW r).length)=flat encW (ps.take i)++encW r++flat encW (ps.drop i)++cur.toList.drop (i*3+3+(n-i)*3):=by
  have h:=Zrb cur.toList (flat encW (ps.drop i)) (encW r) (i*3) ((n-i)*3) hD hRl (by omega);rw [show i*3+3=(i+m)*3 by omega, <-hc1] at h;rw [h];congr 3
  ·rw [<-Zh3 ps i (by omega), <-htk,List.take_take,YAQ (by omega)]
  ·omega
 have hdone:∀ W:World,W.heap=((w.setRow g c1.toArray).setRow g (c1.take (i*3)++encW r++c1.drop (i*3+(encW r).length)).toArray).heap->W.os=w.os->W.tape=w.tape->W.output=w.output->W.ownsRow base 108 3 (.slice (some ⟨g,0,none⟩) (n+m) cap) (n+m) (flat encW (ps.take i++[r]++ps.drop i))/\w.grownBy W (some g)/\((Value.slice (some ⟨g,0,none⟩) (n+m) cap).ownBlock=some g\/(Value.slice (some ⟨g,0,none⟩) (n+m) cap).ownBlock=some w.heap.size):=by
  intro W hW h1 h2 h3;have hAl:(flat encW (ps.take i)).length=i*3:=by rw [ZaD Zbg,YAV,YAQ (by omega)]
  refine⟨⟨?_,.inr ⟨g,cap,(flat encW (ps.take i)++encW r++flat encW (ps.drop i)++cur.toList.drop (i*3+3+(n-i)*3)).toArray,rfl,hbg,?_,hroom,hcm,?_,?_⟩⟩,⟨h1,h2,h3,?_,?_⟩,.inl rfl⟩
  ·rw [ZaD Zbg,Zjb ps r i (by omega)];omega
  ·rw [hW,hfin];exact setRow_heap _ g c1.toArray _ 108 _ (setRow_heap w g cur _ 108 _ hg)
  ·simp only [List.size_toArray,YAN,YAi,hclen,hD,hRl,hAl];omega
  ·rw [Zha];exact Zb0 (by rw [hAl,hRl,hD];omega)
  ·rw [hW];simp
  ·intro k _ hk;have hkg:k≠g:=fun e=>hk (by rw [e]);rw [hW,setRow_other _ g k _ hkg,setRow_other _ g k _ hkg]
 have hz1:¬((m:Int)=0):=by omega
 have hz2:¬((i:Int)=(n:Int)):=by omega
 have hw1:IntKind.i64.wrap ((i:Int)+(m:Int))=(i:Int)+(m:Int):=by rw [IntKind.wrap_i64];omega
 have hw2:IntKind.i64.wrap ((n:Int)+(m:Int))=(n:Int)+(m:Int):=by rw [IntKind.wrap_i64];omega
 have hb1:(0:Int)<=(i:Int)+(m:Int):=by omega
 have hin:i<=n:=by omega
 have htn:((i:Int)+(m:Int)).toNat=i+m:=by omega
 have htn2:((n:Int)+(m:Int)).toNat=n+m:=by omega
 have hb2:¬(cap=i+m):=by omega
 have hb3:(i:Int)<=(n:Int)+(m:Int):=by omega
 have hb4:¬(cap=i):=by omega
 have hb5:¬((cap:Int)<(n:Int)+(m:Int)):=by omega
 have HD:=hide hdone;have HC1:=hide (hcp1 w.drew rfl);have mixed:Tryz.prog.follows .mixedOrders=true:=by kernel_rfl
 have HC2:=hide (hcp2 (w.drew.setRow g c1.toArray) rfl);have HOV:=hide hov;clear hdone hcp1 hcp2 hfin hc1 hcell hD hclen hRl hnl hov hc1l htk hcs hg hrow hvb hone hr1 hmx hsz hi0 hz0 hzs hzb hm hnp
 go_enter Tryz.func127,Tryz.ntmps127
 go_wp2_with (simp only [HOV.out])
 go_region_law_o (refine step_copy_runI rfl _ _ 102 102 rfl (.slice (some ⟨g,(i+m)*3,none⟩) (n+m-(i+m)) (cap-(i+m))) (.slice (some ⟨g,i*3,none⟩) (n+m-i) (cap-i)) (by simp [Act.eval,Act.put]) (by simp [Act.eval,Act.put]) (HC1.out 3 (cap-(i+m)) (cap-i)) ?_)
 go_wp2_with (refine wpList_copy_runI _ rfl _ _ 102 102 rfl (.slice (some ⟨g,i*3,none⟩) (n+m-i) (cap-i)) (.slice (some ⟨vb,0,none⟩) m 1) rfl rfl (HC2.out 3 (cap-i)) ?_)
 go_ret;exact⟨_,rfl,HD.out _ (by rw [<-YAY];rfl) rfl rfl rfl⟩
theorem Zhu (base n m vb:Nat)(v:Value)(ps:List WP)(r:WP)(w:World)(hnp:n=ps.length)(hm:m=1)(hbase:base<=w.heap.size)(hn:n<=1048576)(hrow:w.ownsRow base 108 3 v n (flat encW ps))
  (hvb:w.heap[vb]? = some (.cells (encW r).toArray 108 (0,0))) (hr1:∀ u∈encW r,u.oneCell'=true):∃ v' w',(∀ ty,(Builtin.append_ #[102,102] ty #[v,.slice (some ⟨vb,0,none⟩) m 1]).run Tryz.prog w=.ok v' w')/\w'.ownsRow base 108 3 v' (n+m) (flat encW (ps.take n++[r]++ps.drop n))/\w.grownBy w' v.ownBlock/\(v'.ownBlock=v.ownBlock\/v'.ownBlock=some w.heap.size):=by
 obtain⟨i0,hi0,hz0,hzs,hzb⟩:=info_parts Tryz.infoWay;obtain⟨a,c,hv⟩:=Zac hrow;obtain⟨v',w',h1,h2,h3,_,h4⟩:=run_append_own_at (P:=Tryz.prog) w base 102 102 108 i0 _ 3 i0.bytes Tryz.underlying102 hi0 hz0 hzs rfl rfl (by omega) v n (flat encW ps) hrow ⟨vb,0,none⟩ m 1 (encW r) (by rw [Zbg,hm]) (fun j u hj=>by
  rw [add8,Nat.zero_add,Zaa hvb];simpa using hj) hr1 (by unfold maxLen;omega) (by rw [hzb];omega) hbase
 refine⟨v',w',fun ty=>?_,?_,h3,h4⟩
 ·rw [hv,Zd1 w 102 102 ty 108 i0 Tryz.underlying102 Tryz.underlying102 hi0, <-hv];exact h1
 ·rw [Zha,hnp,YAh,List.drop_length];rw [hnp] at h2;simpa [flat] using h2
theorem Zqt (base n m vb:Nat)(v:Value)(ps:List WP)(r:WP)(w:World)(hnp:n=ps.length)(hm:m=1)(hbase:base<=w.heap.size)(hn:n<=1048576)(hrow:w.ownsRow base 108 3 v n (flat encW ps))
  (hvb:w.heap[vb]? = some (.cells (encW r).toArray 108 (0,0))) (hr1:∀ u∈encW r,u.oneCell'=true):
  Calls Tryz.prog 127 #[v,.int .i64 (n:Int),.slice (some ⟨vb,0,none⟩) m 1] w fun e w'=>∃ v',e=.returned v'/\w'.ownsRow base 108 3 v' (n+m) (flat encW (ps.take n++[r]++ps.drop n))/\w.grownBy w' v.ownBlock/\(v'.ownBlock=v.ownBlock\/v'.ownBlock=some w.heap.size):=by
 obtain⟨v',w',h1,h2,h3,h4⟩:=Zhu base n m vb v ps r w hnp hm hbase hn hrow hvb hr1;obtain⟨va,vc,hve⟩:=Zac h2;subst hve;have HR:=hide h1;generalize ps.take n++[r]++ps.drop n=l at *;have H2:=hide h2;have H3:=hide h3;have H4:=hide h4;have hz1:¬((m:Int)=0):=by omega
 clear h1 h2 h3 h4 hvb hr1 hm hnp;rcases hrow.2 with ⟨h0,hn0⟩ | ⟨g,cap,cur,hv,hbg,hg,hnc,hcm,hcs,htk⟩
 ·subst h0;clear hrow;subst hn0
  go_enter Tryz.func127,Tryz.ntmps127
  go_wp2_with (at_builtin;refine Lib.wpList_append_run _ rfl _ _ _ _ rfl _ _ rfl rfl _ _ (HR.out _) ?_)
  go_ret;exact⟨_,rfl,(by simpa using H2.out),H3.out,(by simpa [Value.ownBlock] using H4.out)⟩
 ·subst hv;have hc63:cap<=9223372036854775807:=by unfold maxLen at hcm;omega
  clear hrow hg hcs htk
  go_enter Tryz.func127,Tryz.ntmps127
  go_wp2_with (at_builtin;refine Lib.wpList_append_run _ rfl _ _ _ _ rfl _ _ rfl rfl _ _ (HR.out _) ?_)
  all_goals (go_ret;exact⟨_,rfl,H2.out,H3.out,H4.out⟩)
theorem ZoI (base g cap n m i vb:Nat)(ps:List WP)(r:WP)(w:World)(hnp:n=ps.length)(hm:m=1)(hbase:base<=w.heap.size)(hn:n<=1048576)(hrow:w.ownsRow base 108 3 (.slice (some ⟨g,0,none⟩) n cap) n (flat encW ps))(hi:i<n)(hroom:cap<n+m)
  (hvb:w.heap[vb]? = some (.cells (encW r).toArray 108 (0,0))) (hone:∀ p∈ps,∃ a k c,p.2=.slice a k c) (hr1:∀ u∈encW r,u.oneCell'=true):
  Calls Tryz.prog 127 #[.slice (some ⟨g,0,none⟩) n cap,.int .i64 (i:Int),.slice (some ⟨vb,0,none⟩) m 1] w fun e w'=>∃ v,e=.returned v/\w'.ownsRow base 108 3 v (n+m) (flat encW (ps.take i++[r]++ps.drop i))/\w.grownBy w' (some g)/\(v.ownBlock=some g\/v.ownBlock=some w.heap.size):=by
 have hnl:(flat encW ps).length=n*3:=hrow.1;have hui:=Tryz.underlying102;have hus:=Tryz.underlying102;obtain⟨i0,hi0,hz0,hzs,hzb⟩:=info_parts Tryz.infoWay;have hsz:(Tryz.prog.info? 108).map (·.size)=some 3:=by rw [hi0];simp [hzs]
 rcases hrow.2 with ⟨h0,_⟩ | ⟨g',cap',cur,hv,hbg,hg,hnc,hcm,hcs,htk⟩
 ·simp at h0
 simp at hv;obtain⟨rfl,rfl⟩:=hv;have hc63:cap<=9223372036854775807:=by unfold maxLen at hcm;omega
 have hgw:=Zab hg;have hvw:=Zab hvb;have hD:(flat encW (ps.drop i)).length=(n-i)*3:=by rw [ZaD Zbg,YAi, <-hnp]
 have hAl:(flat encW (ps.take i)).length=i*3:=by rw [ZaD Zbg,YAV,YAQ (by omega)]
 have hRl:(encW r).length=3:=Zbg r;have hkk:(n:Int)+(m:Int)-(i:Int)=((n+m-i:Nat):Int):=by omega
 have hik:i+(n+m-i)=n+m:=by omega
 have hcellw:∀ (j:Nat) (u:Value),(flat encW ps)[j]? = some u->w.cell? ⟨g,j,none⟩=some u:=fun j u hj=>by
  have h2:j<n*3:=by rw [<-hnl];exact (YAD.1 hj).1
  rw [<-htk,YAn h2] at hj;rw [Zaa hg];simpa using hj
 have hold:(Builtin.firstCells i0.size i (.slice (some ⟨g,0,none⟩) i cap)).run Tryz.prog w.drew=.ok (flat encW (ps.take i)).toArray w.drew:=by
  rw [hzs];exact run_firstCells_some w.drew 3 i ⟨g,0,none⟩ i cap (flat encW (ps.take i)) hAl (fun j v hj=>by
   rw [add8,Nat.zero_add];refine hcellw j v ?_;rw [<-Zh3 ps i (by omega),List.getElem?_take] at hj
   split at hj
   ·exact hj
   ·cases hj)
 have hrz0:=Lib.run_append_grow_zeros (P:=Tryz.prog) w 102 3 102 108 i0 _ .i64 .i64 hui Tryz.underlying3 hi0 hz0 (some ⟨g,0,none⟩) i cap (flat encW (ps.take i)) hold (n+m-i) (by omega) (by rw [hzs];omega) (by omega) (by omega) (by rw [hzb];omega) (by rw [hzb,hik];exact growslice_fits hroom (by omega));rw [hik] at hrz0;have hGn:=grownCap_ge w (n+m) cap 108;have hGm:=grownCap_le_maxLen w (n+m) cap 108 (by unfold maxLen;omega);obtain⟨G,hG⟩:∃ G,G=grownCap w (n+m) cap 108:=⟨_,rfl⟩;rw [<-hG] at hrz0 hGn hGm;obtain⟨ROW,hROW⟩:∃ ROW:Array Value,ROW=(flat encW (ps.take i)).toArray++Builtin.zeroCells (Value.agg (wayC Zbl (.slice none 0 0))).cells (n+m-i)++Builtin.zeroCells (Value.agg (wayC Zbl (.slice none 0 0))).cells (G-(n+m)):=⟨_,rfl⟩;rw [<-hROW] at hrz0;have hRs:ROW.size=G*3:=by
  rw [hROW];simp only [Array.size_append,List.size_toArray,size_zeroCells,hAl,show (Value.agg (wayC Zbl (.slice none 0 0))).cells.size=3 from rfl];omega
 have hRt:ROW.toList.take (i*3)=flat encW (ps.take i):=by
  rw [hROW];simp only [Array.toList_append,YAY];rw [<-hAl];exact List.take_left
 obtain⟨N,hN⟩:∃ N,N=w.heap.size:=⟨_,rfl⟩;obtain⟨W1,hW1⟩:∃ W1,W1=w.drew.alloc (.cells ROW 108):=⟨_,rfl⟩;rw [<-hW1, <-hN] at hrz0;have hrz:∀ ty,(Builtin.append_ #[102,3] ty #[.slice (some ⟨g,0,none⟩) i cap,.int .i64 ((n:Int)+(m:Int)-(i:Int))]).run Tryz.prog w=.ok (.slice (some ⟨N,0,none⟩) (n+m) G) W1:=fun ty=>by
  rw [hkk];exact hrz0
 have g1:W1.heap[N]? = some (.cells ROW 108 (0,0)):=by rw [hW1,hN];exact YAE w.drew _
 have b1:∀ k,k<N->W1.heap[k]? = w.heap[k]? := fun k hk=>by rw [hW1];exact YAH _ _ _ (by rw [hN] at hk;exact hk)
 have s1:W1.heap.size=N+1:=by rw [hW1,hN];simp
 have hcpA:∀ ty dc,(Builtin.copy_ #[102,102] ty #[.slice (some ⟨N,i*3,none⟩) (n+m-i) dc,.slice (some ⟨vb,0,none⟩) m 1]).run Tryz.prog W1=.ok (goInt (Nat.min m (n+m-i))) (W1.setRow N (ROW.toList.take (i*3)++encW r++ROW.toList.drop (i*3+(encW r).length)).toArray):=fun ty dc=>
  ZaT W1 102 102 ty 108 N (i*3) (n+m-i) dc ⟨vb,0,none⟩ m 1 3 ROW 108 (encW r) hui hsz g1
   (by rw [hRl];have:Nat.min m (n+m-i)=m:=YAQ (by omega);omega) (fun j u hj=>by
    rw [add8,Nat.zero_add];simp only [World.cell?];rw [b1 vb (by omega),hvb];simpa using hj) (by rw [hRl,hRs];omega) hr1
 obtain⟨c1,hc1⟩:∃ c1,c1=ROW.toList.take (i*3)++encW r++ROW.toList.drop (i*3+(encW r).length):=⟨_,rfl⟩;rw [<-hc1] at hcpA;have hc1l:c1.length=G*3:=by
  rw [hc1];simp only [YAN,YAV,YAi,Array.length_toList,hRs,hRl];omega
 have hc1t:c1.take ((i+m)*3)=flat encW (ps.take i)++encW r:=by
  rw [hc1,hRt];rw [List.take_append_of_le_length (by simp only [YAN,hAl,hRl];omega),YAL (by simp only [YAN,hAl,hRl];omega)]
 obtain⟨W2,hW2⟩:∃ W2,W2=W1.setRow N c1.toArray:=⟨_,rfl⟩;rw [<-hW2] at hcpA;have g2:W2.heap[N]? = some (.cells c1.toArray 108 (0,0)):=by rw [hW2];exact setRow_heap W1 N ROW _ 108 _ g1
 have b2:∀ k,k<N->W2.heap[k]? = w.heap[k]? := fun k hk=>by rw [hW2,setRow_other W1 N k _ (by omega)];exact b1 k hk
 have s2:W2.heap.size=N+1:=by rw [hW2];simpa using s1
 have hcpB0:=fun dc sc=>ZaT (P:=Tryz.prog) W2.drew 102 102 3 108 N ((i+m)*3) (n+m-(i+m)) dc ⟨g,i*3,none⟩ (n-i) sc 3 c1.toArray 108 (flat encW (ps.drop i)) hui hsz g2
   (by rw [hD];congr 1;have:Nat.min (n-i) (n+m-(i+m))=n-i:=YAQ (by omega);omega) (fun j u hj=>by
    rw [add8];have h2:=hcellw (i*3+j) u (by rw [<-Zh2 ps i (by omega),List.getElem?_drop] at hj;exact hj);simp only [World.cell?] at h2 |-
    rw [show W2.drew.heap[g]? = w.heap[g]? from b2 g (by omega)];exact h2) (by rw [hD];simp only [List.size_toArray,hc1l];omega) (Zfw _ (fun p hp=>hone p (List.mem_of_mem_drop hp)))
 obtain⟨c2,hc2⟩:∃ c2,c2=c1.take ((i+m)*3)++flat encW (ps.drop i)++c1.drop ((i+m)*3+(flat encW (ps.drop i)).length):=⟨_,rfl⟩;simp only [<-hc2] at hcpB0;obtain⟨W3,hW3⟩:∃ W3,W3=W2.drew.setRow N c2.toArray:=⟨_,rfl⟩;rw [<-hW3] at hcpB0;have g3:W3.heap[N]? = some (.cells c2.toArray 108 (0,0)):=by rw [hW3];exact setRow_heap W2.drew N c1.toArray _ 108 _ g2
 have b3:∀ k,k<N->W3.heap[k]? = w.heap[k]? := fun k hk=>by rw [hW3,setRow_other W2.drew N k _ (by omega)];exact b2 k hk
 have s3:W3.heap.size=N+1:=by rw [hW3];simpa using s2
 have hfin:W3.ownsRow base 108 3 (.slice (some ⟨N,0,none⟩) (n+m) G) (n+m) (flat encW (ps.take i++[r]++ps.drop i))/\w.grownBy W3 (some g):=by
  refine⟨⟨?_,.inr ⟨N,G,c2.toArray,rfl,by rw [hN];exact hbase,g3,hGn,hGm,?_,?_⟩⟩,⟨?_,?_,?_,by omega,fun k hk _=>b3 k (by omega)⟩⟩
  ·rw [ZaD Zbg,Zjb ps r i (by omega)];omega
  ·rw [hc2,hc1t];simp only [List.size_toArray,YAN,YAi,hc1l,hD,hRl,hAl];omega
  ·rw [Zha,hc2,hc1t];exact Zb0 (by rw [hAl,hRl,hD];omega)
  ·rw [hW3,hW2,hW1];rfl
  ·rw [hW3,hW2,hW1];rfl
  ·rw [hW3,hW2,hW1];rfl
 have hz1:¬((m:Int)=0):=by omega
 have hz2:¬((i:Int)=(n:Int)):=by omega
 have hz3:(cap:Int)<(n:Int)+(m:Int):=by omega
 have hw1:IntKind.i64.wrap ((i:Int)+(m:Int))=(i:Int)+(m:Int):=by rw [IntKind.wrap_i64];omega
 have hw2:IntKind.i64.wrap ((n:Int)+(m:Int))=(n:Int)+(m:Int):=by rw [IntKind.wrap_i64];omega
 have hw3:IntKind.i64.wrap ((n:Int)+(m:Int)-(i:Int))=(n:Int)+(m:Int)-(i:Int):=by rw [IntKind.wrap_i64];omega
 have hb1:(0:Int)<=(i:Int)+(m:Int):=by omega
 have hin:i<=n:=by omega
 have htn:((i:Int)+(m:Int)).toNat=i+m:=by omega
 have hb3:(i:Int)<=(n:Int):=by omega
 have hGi:¬(G=i):=by omega
 have hGim:¬(G=i+m):=by omega
 have hci:¬(cap=i):=by omega
 have hG63:G<=9223372036854775807:=by unfold maxLen at hGm;omega
 have HD:=hide hfin;have HNW:=hide hN;have HA:=hide hrz;have HC1:=hide hcpA;have HC2:=hide hcpB0;have mixed:Tryz.prog.follows .mixedOrders=true:=by kernel_rfl
 clear hfin hrz hcpA hcpB0 hrz0 g1 g2 g3 b1 b2 b3 s1 s2 s3 hW1 hW2 hW3 hc1 hc2 hc1l hc1t hROW hRs hRt hold hcellw hkk hik hN hG hGm hD hAl hRl hnl htk hcs hg hrow hvb hone hr1 hsz hi0 hz0 hzs hzb hm hnp
 go_enter Tryz.func127,Tryz.ntmps127
 go_wp2_with (first
  | (at_builtin;refine Lib.wpList_append_run _ rfl _ _ _ _ rfl _ _ rfl rfl _ _ (HA.out _) ?_)
  | (refine wpList_copy_runI _ rfl _ _ 102 102 rfl (.slice (some ⟨N,i*3,none⟩) (n+m-i) (G-i)) (.slice (some ⟨vb,0,none⟩) m 1) rfl rfl (HC1.out 3 (G-i)) ?_))
 go_region_law_o (refine step_copy_runI rfl _ _ 102 102 rfl (.slice (some ⟨N,(i+m)*3,none⟩) (n+m-(i+m)) (G-(i+m))) (.slice (some ⟨g,i*3,none⟩) (n-i) (cap-i)) (by simp [Act.eval,Act.put]) (by simp [Act.eval,Act.put]) (HC2.out (G-(i+m)) (cap-i)) ?_)
 go_wp2;go_ret;exact⟨_,rfl,HD.out.1,HD.out.2,.inr (by rw [<-HNW.out];rfl)⟩
theorem Zne (base g cap n m i vb:Nat)(ps:List RP)(r:RP)(w:World)(hnp:n=ps.length)(hm:m=1)(hrow:w.ownsRow base 37 8 (.slice (some ⟨g,0,none⟩) n cap) n (flat encP ps))(hi:i<n)(hroom:n+m<=cap)
  (hvb:w.heap[vb]? = some (.cells (encP r).toArray 37 (0,0))) (hne:vb≠g) (hone:∀ p∈ps,∃ a k c,p.2=.slice a k c) (hr1:∀ u∈encP r,u.oneCell'=true):
  Calls Tryz.prog 79 #[.slice (some ⟨g,0,none⟩) n cap,.int .i64 (i:Int),.slice (some ⟨vb,0,none⟩) m 1] w fun e w'=>∃ v,e=.returned v/\w'.ownsRow base 37 8 v (n+m) (flat encP (ps.take i++[r]++ps.drop i))/\w.grownBy w' (some g)/\(v.ownBlock=some g\/v.ownBlock=some w.heap.size):=by
 have hnl:(flat encP ps).length=n*8:=hrow.1;have hui:=Tryz.underlying53;have hus:=Tryz.underlying31;obtain⟨i0,hi0,hz0,hzs,hzb⟩:=info_parts Tryz.infoRec;have hsz:(Tryz.prog.info? 37).map (·.size)=some 8:=by rw [hi0];simp [hzs]
 rcases hrow.2 with ⟨h0,_⟩ | ⟨g',cap',cur,hv,hbg,hg,hnc,hcm,hcs,htk⟩
 ·simp at h0
 simp at hv;obtain⟨rfl,rfl⟩:=hv;have hmx:maxLen=9223372036854775807\/maxLen<=9223372036854775807:=by unfold maxLen;omega
 have hc63:cap<=9223372036854775807:=by omega
 have hD:(flat encP (ps.drop i)).length=(n-i)*8:=by rw [ZaD Zay,YAi, <-hnp]
 have hclen:cur.toList.length=cap*8:=by simpa using hcs
 have hRl:(encP r).length=8:=Zay r;have hov:∀ lb cb,(callFunc 107 #[.slice (some ⟨vb,0,none⟩) m 1,.slice (some ⟨g,(i+m)*8,none⟩) lb cb]).run Tryz.prog w=.ok (.value (.bool false)) w:=fun lb cb=>by
  rw [run_callFunc_extern Tryz.func107 (by kernel_rfl) (by kernel_rfl) (by kernel_rfl) (e:=Extern.SlicesOverlaps.overlaps #[31,31] #[4]) (by kernel_rfl),
   Lib.run_overlaps_apart w 31 4 37 hus 8 (by intro w;simp [Go.sizeOf,typeInfo,hi0,hzs]) ⟨vb,0,none⟩ ⟨g,(i+m)*8,none⟩ m 1 lb cb hne 37 37 8 cur.size (by simp [World.shape?,hvb,hRl]) (by simp [World.shape?,hg]) (by omega) (Zae hvb 0) (Zae hvb 8)]
  rfl
 have hcell:∀ (W:World),W.heap=w.heap->∀ j u,(flat encP (ps.drop i))[j]? = some u->W.cell? ((⟨g,i*8,none⟩:Addr).add j)=some u:=fun W hW j u hj=>by
  rw [add8];simp only [World.cell?,hW,hg];rw [<-Zfx ps i (by omega), <-htk,List.getElem?_drop] at hj;have h2:i*8+j<n*8:=by
   have h3:=(YAD.1 hj).1;rw [YAV] at h3;omega
  rw [YAn h2] at hj;simpa using hj
 have hcp1:∀ (W:World),W.heap=w.heap->∀ ty dc sc,(Builtin.copy_ #[53,53] ty #[.slice (some ⟨g,(i+m)*8,none⟩) (n+m-(i+m)) dc,.slice (some ⟨g,i*8,none⟩) (n+m-i) sc]).run Tryz.prog W=.ok (goInt (Nat.min (n+m-i) (n+m-(i+m)))) (W.setRow g (cur.toList.take ((i+m)*8)++flat encP (ps.drop i)++cur.toList.drop ((i+m)*8+(flat encP (ps.drop i)).length)).toArray):=fun W hW ty dc sc=>
  ZaT W 53 53 ty 37 g ((i+m)*8) (n+m-(i+m)) dc ⟨g,i*8,none⟩ (n+m-i) sc 8 cur 37 (flat encP (ps.drop i)) hui hsz (by rw [hW];exact hg)
   (by rw [hD];congr 1;have:Nat.min (n+m-i) (n+m-(i+m))=n+m-(i+m):=Nat.min_eq_right (by omega);omega) (hcell W hW) (by rw [hD];omega) (Zdi _ (fun p hp=>hone p (List.mem_of_mem_drop hp)))
 obtain⟨c1,hc1⟩:∃ c1,c1=cur.toList.take ((i+m)*8)++flat encP (ps.drop i)++cur.toList.drop ((i+m)*8+(flat encP (ps.drop i)).length):=⟨_,rfl⟩;rw [<-hc1] at hcp1;have hc1l:c1.length=cap*8:=by rw [hc1];simp only [YAN,YAV,YAi,hclen,hD];omega
 have hcp2:∀ (W:World),W.heap=(w.setRow g c1.toArray).heap->∀ ty dc,(Builtin.copy_ #[53,31] ty #[.slice (some ⟨g,i*8,none⟩) (n+m-i) dc,.slice (some ⟨vb,0,none⟩) m 1]).run Tryz.prog W=.ok (goInt (Nat.min m (n+m-i))) (W.setRow g (c1.take (i*8)++encP r++c1.drop (i*8+(encP r).length)).toArray):=fun W hW ty dc=>by
  have h:=ZaT (P:=Tryz.prog) W 53 31 ty 37 g (i*8) (n+m-i) dc ⟨vb,0,none⟩ m 1 8 c1.toArray 37 (encP r) hui hsz (by rw [hW];exact setRow_heap w g cur _ 37 _ hg)
   (by rw [hRl];have:Nat.min m (n+m-i)=m:=YAQ (by omega);omega) (fun j u hj=>by
    rw [add8];simp only [World.cell?,hW];rw [setRow_other w g vb _ hne,hvb];simpa using hj) (by rw [hRl];simp only [List.size_toArray,hc1l];omega) hr1
  simpa using h
 have hfin:c1.take (i*8)++encP r++c1.drop (i*8+(encP r).length)=flat encP (ps.take i)++encP r++flat encP (ps.drop i)++cur.toList.drop (i*8+8+(n-i)*8):=by
  have h:=Zpw cur.toList (flat encP (ps.drop i)) (encP r) (i*8) ((n-i)*8) hD hRl (by omega);rw [show i*8+8=(i+m)*8 by omega, <-hc1] at h;rw [h];congr 3
  ·rw [<-Zd4 ps i (by omega), <-htk,List.take_take,YAQ (by omega)]
  ·omega
 have hdone:∀ W:World,W.heap=((w.setRow g c1.toArray).setRow g (c1.take (i*8)++encP r++c1.drop (i*8+(encP r).length)).toArray).heap->W.os=w.os->W.tape=w.tape->W.output=w.output->W.ownsRow base 37 8 (.slice (some ⟨g,0,none⟩) (n+m) cap) (n+m) (flat encP (ps.take i++[r]++ps.drop i))/\w.grownBy W (some g)/\((Value.slice (some ⟨g,0,none⟩) (n+m) cap).ownBlock=some g\/(Value.slice (some ⟨g,0,none⟩) (n+m) cap).ownBlock=some w.heap.size):=by
  intro W hW h1 h2 h3;have hAl:(flat encP (ps.take i)).length=i*8:=by rw [ZaD Zay,YAV,YAQ (by omega)]
  refine⟨⟨?_,.inr ⟨g,cap,(flat encP (ps.take i)++encP r++flat encP (ps.drop i)++cur.toList.drop (i*8+8+(n-i)*8)).toArray,rfl,hbg,?_,hroom,hcm,?_,?_⟩⟩,⟨h1,h2,h3,?_,?_⟩,.inl rfl⟩
  ·rw [ZaD Zay,Zhg ps r i (by omega)];omega
  ·rw [hW,hfin];exact setRow_heap _ g c1.toArray _ 37 _ (setRow_heap w g cur _ 37 _ hg)
  ·simp only [List.size_toArray,YAN,YAi,hclen,hD,hRl,hAl];omega
  ·rw [Zer];exact Zb0 (by rw [hAl,hRl,hD];omega)
  ·rw [hW];simp
  ·intro k _ hk;have hkg:k≠g:=fun e=>hk (by rw [e]);rw [hW,setRow_other _ g k _ hkg,setRow_other _ g k _ hkg]
 have hz1:¬((m:Int)=0):=by omega
 have hz2:¬((i:Int)=(n:Int)):=by omega
 have hw1:IntKind.i64.wrap ((i:Int)+(m:Int))=(i:Int)+(m:Int):=by rw [IntKind.wrap_i64];omega
 have hw2:IntKind.i64.wrap ((n:Int)+(m:Int))=(n:Int)+(m:Int):=by rw [IntKind.wrap_i64];omega
 have hb1:(0:Int)<=(i:Int)+(m:Int):=by omega
 have hin:i<=n:=by omega
 have htn:((i:Int)+(m:Int)).toNat=i+m:=by omega
 have htn2:((n:Int)+(m:Int)).toNat=n+m:=by omega
 have hb2:¬(cap=i+m):=by omega
 have hb3:(i:Int)<=(n:Int)+(m:Int):=by omega
 have hb4:¬(cap=i):=by omega
 have hb5:¬((cap:Int)<(n:Int)+(m:Int)):=by omega
 have HD:=hide hdone;have HC1:=hide (hcp1 w.drew rfl);have mixed:Tryz.prog.follows .mixedOrders=true:=by kernel_rfl
 have HC2:=hide (hcp2 (w.drew.setRow g c1.toArray) rfl);have HOV:=hide hov;clear hdone hcp1 hcp2 hfin hc1 hcell hD hclen hRl hnl hov hc1l htk hcs hg hrow hvb hone hr1 hmx hsz hi0 hz0 hzs hzb hm hnp
 go_enter Tryz.func79,Tryz.ntmps79
 go_wp2_with (simp only [HOV.out])
 go_region_law_o (refine step_copy_runI rfl _ _ 53 53 rfl (.slice (some ⟨g,(i+m)*8,none⟩) (n+m-(i+m)) (cap-(i+m))) (.slice (some ⟨g,i*8,none⟩) (n+m-i) (cap-i)) (by simp [Act.eval,Act.put]) (by simp [Act.eval,Act.put]) (HC1.out 3 (cap-(i+m)) (cap-i)) ?_)
 go_wp2_with (refine wpList_copy_runI _ rfl _ _ 53 31 rfl (.slice (some ⟨g,i*8,none⟩) (n+m-i) (cap-i)) (.slice (some ⟨vb,0,none⟩) m 1) rfl rfl (HC2.out 3 (cap-i)) ?_)
 go_ret;exact⟨_,rfl,HD.out _ (by rw [<-YAY];rfl) rfl rfl rfl⟩
theorem Zht (base n m vb:Nat)(v:Value)(ps:List RP)(r:RP)(w:World)(hnp:n=ps.length)(hm:m=1)(hbase:base<=w.heap.size)(hn:n<=1048576)(hrow:w.ownsRow base 37 8 v n (flat encP ps))
  (hvb:w.heap[vb]? = some (.cells (encP r).toArray 37 (0,0))) (hr1:∀ u∈encP r,u.oneCell'=true):∃ v' w',(∀ ty,(Builtin.append_ #[53,31] ty #[v,.slice (some ⟨vb,0,none⟩) m 1]).run Tryz.prog w=.ok v' w')/\w'.ownsRow base 37 8 v' (n+m) (flat encP (ps.take n++[r]++ps.drop n))/\w.grownBy w' v.ownBlock/\(v'.ownBlock=v.ownBlock\/v'.ownBlock=some w.heap.size):=by
 obtain⟨i0,hi0,hz0,hzs,hzb⟩:=info_parts Tryz.infoRec;obtain⟨a,c,hv⟩:=Zac hrow;obtain⟨v',w',h1,h2,h3,_,h4⟩:=run_append_own_at (P:=Tryz.prog) w base 53 53 37 i0 _ 8 i0.bytes Tryz.underlying53 hi0 hz0 hzs rfl rfl (by omega) v n (flat encP ps) hrow ⟨vb,0,none⟩ m 1 (encP r) (by rw [Zay,hm]) (fun j u hj=>by
  rw [add8,Nat.zero_add,Zaa hvb];simpa using hj) hr1 (by unfold maxLen;omega) (by rw [hzb];omega) hbase
 refine⟨v',w',fun ty=>?_,?_,h3,h4⟩
 ·rw [hv,Zd1 w 53 31 ty 37 i0 Tryz.underlying53 Tryz.underlying31 hi0, <-hv];exact h1
 ·rw [Zer,hnp,YAh,List.drop_length];rw [hnp] at h2;simpa [flat] using h2
theorem Zqs (base n m vb:Nat)(v:Value)(ps:List RP)(r:RP)(w:World)(hnp:n=ps.length)(hm:m=1)(hbase:base<=w.heap.size)(hn:n<=1048576)(hrow:w.ownsRow base 37 8 v n (flat encP ps))
  (hvb:w.heap[vb]? = some (.cells (encP r).toArray 37 (0,0))) (hr1:∀ u∈encP r,u.oneCell'=true):
  Calls Tryz.prog 79 #[v,.int .i64 (n:Int),.slice (some ⟨vb,0,none⟩) m 1] w fun e w'=>∃ v',e=.returned v'/\w'.ownsRow base 37 8 v' (n+m) (flat encP (ps.take n++[r]++ps.drop n))/\w.grownBy w' v.ownBlock/\(v'.ownBlock=v.ownBlock\/v'.ownBlock=some w.heap.size):=by
 obtain⟨v',w',h1,h2,h3,h4⟩:=Zht base n m vb v ps r w hnp hm hbase hn hrow hvb hr1;obtain⟨va,vc,hve⟩:=Zac h2;subst hve;have HR:=hide h1;generalize ps.take n++[r]++ps.drop n=l at *;have H2:=hide h2;have H3:=hide h3;have H4:=hide h4;have hz1:¬((m:Int)=0):=by omega
 clear h1 h2 h3 h4 hvb hr1 hm hnp;rcases hrow.2 with ⟨h0,hn0⟩ | ⟨g,cap,cur,hv,hbg,hg,hnc,hcm,hcs,htk⟩
 ·subst h0;clear hrow;subst hn0
  go_enter Tryz.func79,Tryz.ntmps79
  go_wp2_with (at_builtin;refine Lib.wpList_append_run _ rfl _ _ _ _ rfl _ _ rfl rfl _ _ (HR.out _) ?_)
  go_ret;exact⟨_,rfl,(by simpa using H2.out),H3.out,(by simpa [Value.ownBlock] using H4.out)⟩
 ·subst hv;have hc63:cap<=9223372036854775807:=by unfold maxLen at hcm;omega
  clear hrow hg hcs htk
  go_enter Tryz.func79,Tryz.ntmps79
  go_wp2_with (at_builtin;refine Lib.wpList_append_run _ rfl _ _ _ _ rfl _ _ rfl rfl _ _ (HR.out _) ?_)
  all_goals (go_ret;exact⟨_,rfl,H2.out,H3.out,H4.out⟩)
theorem ZoH (base g cap n m i vb:Nat)(ps:List RP)(r:RP)(w:World)(hnp:n=ps.length)(hm:m=1)(hbase:base<=w.heap.size)(hn:n<=1048576)(hrow:w.ownsRow base 37 8 (.slice (some ⟨g,0,none⟩) n cap) n (flat encP ps))(hi:i<n)(hroom:cap<n+m)
  (hvb:w.heap[vb]? = some (.cells (encP r).toArray 37 (0,0))) (hone:∀ p∈ps,∃ a k c,p.2=.slice a k c) (hr1:∀ u∈encP r,u.oneCell'=true):
  Calls Tryz.prog 79 #[.slice (some ⟨g,0,none⟩) n cap,.int .i64 (i:Int),.slice (some ⟨vb,0,none⟩) m 1] w fun e w'=>∃ v,e=.returned v/\w'.ownsRow base 37 8 v (n+m) (flat encP (ps.take i++[r]++ps.drop i))/\w.grownBy w' (some g)/\(v.ownBlock=some g\/v.ownBlock=some w.heap.size):=by
 have hnl:(flat encP ps).length=n*8:=hrow.1;have hui:=Tryz.underlying53;have hus:=Tryz.underlying31;obtain⟨i0,hi0,hz0,hzs,hzb⟩:=info_parts Tryz.infoRec;have hsz:(Tryz.prog.info? 37).map (·.size)=some 8:=by rw [hi0];simp [hzs]
 rcases hrow.2 with ⟨h0,_⟩ | ⟨g',cap',cur,hv,hbg,hg,hnc,hcm,hcs,htk⟩
 ·simp at h0
 simp at hv;obtain⟨rfl,rfl⟩:=hv;have hc63:cap<=9223372036854775807:=by unfold maxLen at hcm;omega
 have hgw:=Zab hg;have hvw:=Zab hvb;have hD:(flat encP (ps.drop i)).length=(n-i)*8:=by rw [ZaD Zay,YAi, <-hnp]
 have hAl:(flat encP (ps.take i)).length=i*8:=by rw [ZaD Zay,YAV,YAQ (by omega)]
 have hRl:(encP r).length=8:=Zay r;have hkk:(n:Int)+(m:Int)-(i:Int)=((n+m-i:Nat):Int):=by omega
 have hik:i+(n+m-i)=n+m:=by omega
 have hcellw:∀ (j:Nat) (u:Value),(flat encP ps)[j]? = some u->w.cell? ⟨g,j,none⟩=some u:=fun j u hj=>by
  have h2:j<n*8:=by rw [<-hnl];exact (YAD.1 hj).1
  rw [<-htk,YAn h2] at hj;rw [Zaa hg];simpa using hj
 have hold:(Builtin.firstCells i0.size i (.slice (some ⟨g,0,none⟩) i cap)).run Tryz.prog w.drew=.ok (flat encP (ps.take i)).toArray w.drew:=by
  rw [hzs];exact run_firstCells_some w.drew 8 i ⟨g,0,none⟩ i cap (flat encP (ps.take i)) hAl (fun j v hj=>by
   rw [add8,Nat.zero_add];refine hcellw j v ?_;rw [<-Zd4 ps i (by omega),List.getElem?_take] at hj
   split at hj
   ·exact hj
   ·cases hj)
 have hrz0:=Lib.run_append_grow_zeros (P:=Tryz.prog) w 53 3 53 37 i0 _ .i64 .i64 hui Tryz.underlying3 hi0 hz0 (some ⟨g,0,none⟩) i cap (flat encP (ps.take i)) hold (n+m-i) (by omega) (by rw [hzs];omega) (by omega) (by omega) (by rw [hzb];omega) (by rw [hzb,hik];exact growslice_fits hroom (by omega));rw [hik] at hrz0;have hGn:=grownCap_ge w (n+m) cap 37;have hGm:=grownCap_le_maxLen w (n+m) cap 37 (by unfold maxLen;omega);obtain⟨G,hG⟩:∃ G,G=grownCap w (n+m) cap 37:=⟨_,rfl⟩;rw [<-hG] at hrz0 hGn hGm;obtain⟨ROW,hROW⟩:∃ ROW:Array Value,ROW=(flat encP (ps.take i)).toArray++Builtin.zeroCells (Value.agg (recC Za9 (.slice none 0 0))).cells (n+m-i)++Builtin.zeroCells (Value.agg (recC Za9 (.slice none 0 0))).cells (G-(n+m)):=⟨_,rfl⟩;rw [<-hROW] at hrz0;have hRs:ROW.size=G*8:=by
  rw [hROW];simp only [Array.size_append,List.size_toArray,size_zeroCells,hAl,show (Value.agg (recC Za9 (.slice none 0 0))).cells.size=8 from rfl];omega
 have hRt:ROW.toList.take (i*8)=flat encP (ps.take i):=by
  rw [hROW];simp only [Array.toList_append,YAY];rw [<-hAl];exact List.take_left
 obtain⟨N,hN⟩:∃ N,N=w.heap.size:=⟨_,rfl⟩;obtain⟨W1,hW1⟩:∃ W1,W1=w.drew.alloc (.cells ROW 37):=⟨_,rfl⟩;rw [<-hW1, <-hN] at hrz0;have hrz:∀ ty,(Builtin.append_ #[53,3] ty #[.slice (some ⟨g,0,none⟩) i cap,.int .i64 ((n:Int)+(m:Int)-(i:Int))]).run Tryz.prog w=.ok (.slice (some ⟨N,0,none⟩) (n+m) G) W1:=fun ty=>by
  rw [hkk];exact hrz0
 have g1:W1.heap[N]? = some (.cells ROW 37 (0,0)):=by rw [hW1,hN];exact YAE w.drew _
 have b1:∀ k,k<N->W1.heap[k]? = w.heap[k]? := fun k hk=>by rw [hW1];exact YAH _ _ _ (by rw [hN] at hk;exact hk)
 have s1:W1.heap.size=N+1:=by rw [hW1,hN];simp
 have hcpA:∀ ty dc,(Builtin.copy_ #[53,31] ty #[.slice (some ⟨N,i*8,none⟩) (n+m-i) dc,.slice (some ⟨vb,0,none⟩) m 1]).run Tryz.prog W1=.ok (goInt (Nat.min m (n+m-i))) (W1.setRow N (ROW.toList.take (i*8)++encP r++ROW.toList.drop (i*8+(encP r).length)).toArray):=fun ty dc=>
  ZaT W1 53 31 ty 37 N (i*8) (n+m-i) dc ⟨vb,0,none⟩ m 1 8 ROW 37 (encP r) hui hsz g1
   (by rw [hRl];have:Nat.min m (n+m-i)=m:=YAQ (by omega);omega) (fun j u hj=>by
    rw [add8,Nat.zero_add];simp only [World.cell?];rw [b1 vb (by omega),hvb];simpa using hj) (by rw [hRl,hRs];omega) hr1
 obtain⟨c1,hc1⟩:∃ c1,c1=ROW.toList.take (i*8)++encP r++ROW.toList.drop (i*8+(encP r).length):=⟨_,rfl⟩;rw [<-hc1] at hcpA;have hc1l:c1.length=G*8:=by
  rw [hc1];simp only [YAN,YAV,YAi,Array.length_toList,hRs,hRl];omega
 have hc1t:c1.take ((i+m)*8)=flat encP (ps.take i)++encP r:=by
  rw [hc1,hRt];rw [List.take_append_of_le_length (by simp only [YAN,hAl,hRl];omega),YAL (by simp only [YAN,hAl,hRl];omega)]
 obtain⟨W2,hW2⟩:∃ W2,W2=W1.setRow N c1.toArray:=⟨_,rfl⟩;rw [<-hW2] at hcpA;have g2:W2.heap[N]? = some (.cells c1.toArray 37 (0,0)):=by rw [hW2];exact setRow_heap W1 N ROW _ 37 _ g1
 have b2:∀ k,k<N->W2.heap[k]? = w.heap[k]? := fun k hk=>by rw [hW2,setRow_other W1 N k _ (by omega)];exact b1 k hk
 have s2:W2.heap.size=N+1:=by rw [hW2];simpa using s1
 have hcpB0:=fun dc sc=>ZaT (P:=Tryz.prog) W2.drew 53 53 3 37 N ((i+m)*8) (n+m-(i+m)) dc ⟨g,i*8,none⟩ (n-i) sc 8 c1.toArray 37 (flat encP (ps.drop i)) hui hsz g2
   (by rw [hD];congr 1;have:Nat.min (n-i) (n+m-(i+m))=n-i:=YAQ (by omega);omega) (fun j u hj=>by
    rw [add8];have h2:=hcellw (i*8+j) u (by rw [<-Zfx ps i (by omega),List.getElem?_drop] at hj;exact hj);simp only [World.cell?] at h2 |-
    rw [show W2.drew.heap[g]? = w.heap[g]? from b2 g (by omega)];exact h2) (by rw [hD];simp only [List.size_toArray,hc1l];omega) (Zdi _ (fun p hp=>hone p (List.mem_of_mem_drop hp)))
 obtain⟨c2,hc2⟩:∃ c2,c2=c1.take ((i+m)*8)++flat encP (ps.drop i)++c1.drop ((i+m)*8+(flat encP (ps.drop i)).length):=⟨_,rfl⟩;simp only [<-hc2] at hcpB0;obtain⟨W3,hW3⟩:∃ W3,W3=W2.drew.setRow N c2.toArray:=⟨_,rfl⟩;rw [<-hW3] at hcpB0;have g3:W3.heap[N]? = some (.cells c2.toArray 37 (0,0)):=by rw [hW3];exact setRow_heap W2.drew N c1.toArray _ 37 _ g2
 have b3:∀ k,k<N->W3.heap[k]? = w.heap[k]? := fun k hk=>by rw [hW3,setRow_other W2.drew N k _ (by omega)];exact b2 k hk
 have s3:W3.heap.size=N+1:=by rw [hW3];simpa using s2
 have hfin:W3.ownsRow base 37 8 (.slice (some ⟨N,0,none⟩) (n+m) G) (n+m) (flat encP (ps.take i++[r]++ps.drop i))/\w.grownBy W3 (some g):=by
  refine⟨⟨?_,.inr ⟨N,G,c2.toArray,rfl,by rw [hN];exact hbase,g3,hGn,hGm,?_,?_⟩⟩,⟨?_,?_,?_,by omega,fun k hk _=>b3 k (by omega)⟩⟩
  ·rw [ZaD Zay,Zhg ps r i (by omega)];omega
  ·rw [hc2,hc1t];simp only [List.size_toArray,YAN,YAi,hc1l,hD,hRl,hAl];omega
  ·rw [Zer,hc2,hc1t];exact Zb0 (by rw [hAl,hRl,hD];omega)
  ·rw [hW3,hW2,hW1];rfl
  ·rw [hW3,hW2,hW1];rfl
  ·rw [hW3,hW2,hW1];rfl
 have hz1:¬((m:Int)=0):=by omega
 have hz2:¬((i:Int)=(n:Int)):=by omega
 have hz3:(cap:Int)<(n:Int)+(m:Int):=by omega
 have hw1:IntKind.i64.wrap ((i:Int)+(m:Int))=(i:Int)+(m:Int):=by rw [IntKind.wrap_i64];omega
 have hw2:IntKind.i64.wrap ((n:Int)+(m:Int))=(n:Int)+(m:Int):=by rw [IntKind.wrap_i64];omega
 have hw3:IntKind.i64.wrap ((n:Int)+(m:Int)-(i:Int))=(n:Int)+(m:Int)-(i:Int):=by rw [IntKind.wrap_i64];omega
 have hb1:(0:Int)<=(i:Int)+(m:Int):=by omega
 have hin:i<=n:=by omega
 have htn:((i:Int)+(m:Int)).toNat=i+m:=by omega
 have hb3:(i:Int)<=(n:Int):=by omega
 have hGi:¬(G=i):=by omega
 have hGim:¬(G=i+m):=by omega
 have hci:¬(cap=i):=by omega
 have hG63:G<=9223372036854775807:=by unfold maxLen at hGm;omega
 have HD:=hide hfin;have HNW:=hide hN;have HA:=hide hrz;have HC1:=hide hcpA;have HC2:=hide hcpB0;have mixed:Tryz.prog.follows .mixedOrders=true:=by kernel_rfl
 clear hfin hrz hcpA hcpB0 hrz0 g1 g2 g3 b1 b2 b3 s1 s2 s3 hW1 hW2 hW3 hc1 hc2 hc1l hc1t hROW hRs hRt hold hcellw hkk hik hN hG hGm hD hAl hRl hnl htk hcs hg hrow hvb hone hr1 hsz hi0 hz0 hzs hzb hm hnp
 go_enter Tryz.func79,Tryz.ntmps79
 go_wp2_with (first
  | (at_builtin;refine Lib.wpList_append_run _ rfl _ _ _ _ rfl _ _ rfl rfl _ _ (HA.out _) ?_)
  | (refine wpList_copy_runI _ rfl _ _ 53 31 rfl (.slice (some ⟨N,i*8,none⟩) (n+m-i) (G-i)) (.slice (some ⟨vb,0,none⟩) m 1) rfl rfl (HC1.out 3 (G-i)) ?_))
 go_region_law_o (refine step_copy_runI rfl _ _ 53 53 rfl (.slice (some ⟨N,(i+m)*8,none⟩) (n+m-(i+m)) (G-(i+m))) (.slice (some ⟨g,i*8,none⟩) (n-i) (cap-i)) (by simp [Act.eval,Act.put]) (by simp [Act.eval,Act.put]) (HC2.out (G-(i+m)) (cap-i)) ?_)
 go_wp2;go_ret;exact⟨_,rfl,HD.out.1,HD.out.2,.inr (by rw [<-HNW.out];rfl)⟩
end Go.Proofs.YtikloccefmofdaaGreat
