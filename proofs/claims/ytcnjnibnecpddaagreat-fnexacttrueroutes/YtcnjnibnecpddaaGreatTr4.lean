/-
  Parts.
-/
import Derived.Test.YtcnjnibnecpddaaGreatTr3
namespace Go.Proofs.YtcnjnibnecpddaaGreat
open Go.RowKit
set_option linter.unusedSimpArgs false
set_option linter.unusedVariables false
set_option maxRecDepth 100000
set_option maxHeartbeats 8000000
variable {f r t:Int}{bs:List Bool}{ls:List Lk}{xs:List Value}{l:Lk}{B base hi k lo n size:Nat}{e:TypeId}{v:Value}{W W' w:World}
def ZbJ (f t r:Int)(l:Lk):Bool:=l.r==r&&((l.a==f&&l.b==t)||(l.a==t&&l.b==f))
def ZcR (ls:List Lk)(f t r:Int):Int:=((ls.find? (ZbJ f t r)).map (·.c)).getD 0
theorem Zf7 {α:Type}(p:α->Bool):∀ (ls:List α) (k:Nat) (l:α),(∀ j,j<k->∀ x,ls[j]? = some x->p x=false)->ls[k]? = some l->p l=true->ls.find? p=some l
 | [],_,_,_,h,_=>by simp at h
 | y::ys,0,l,_,h,hp=>by simp at h;subst h;simp [hp]
 | y::ys,k+1,l,hno,h,hp=>by
  have h0:=hno 0 (by omega) y rfl;rw [List.find?_cons,h0];exact Zf7 p ys k l (fun j hj x hx=>hno (j+1) (by omega) x (by simpa using hx)) (by simpa using h) hp
theorem Zif {α:Type}(p:α->Bool)(ls:List α)(h:∀ j,j<ls.length->∀ x,ls[j]? = some x->p x=false):ls.find? p=none:=by
 rw [List.find?_eq_none];intro x hx;obtain⟨i,hi,e⟩:=List.mem_iff_getElem.1 hx;rw [h i hi x (by rw [YAA hi,e])];decide
theorem ZlI {α:Type}{p:α->Bool}{ls:List α}{l:α}(h:∀ j,j<k->∀ x,ls[j]? = some x->p x=false)(hl:ls[k]? = some l)(hp:p l=false):∀ j,j<k+1->∀ x,ls[j]? = some x->p x=false:=by
 intro j hj x hx;by_cases e:j=k
 ·subst e;rw [hl] at hx;cases hx;exact hp
 ·exact h j (by omega) x hx
theorem Zi3 (h:∀ j,j<k->∀ x,ls[j]? = some x->ZbJ f t r x=false)(hl:ls[k]? = some l)(hp:ZbJ f t r l=true):ZcR ls f t r=l.c:=by
 unfold ZcR;rw [Zf7 _ ls k l h hl hp];rfl
theorem ZgY (h:∀ j,j<k->∀ x,ls[j]? = some x->ZbJ f t r x=false)(hl:ls[k]? = some l)(hp:ZbJ f t r l=false):∀ j,j<k+1->∀ x,ls[j]? = some x->ZbJ f t r x=false:=ZlI h hl hp
theorem Zj4 (h:∀ j,j<k->∀ x,ls[j]? = some x->ZbJ f t r x=false)(hk:k=ls.length):ZcR ls f t r=0:=by
 unfold ZcR;rw [Zif _ ls (by rw [<-hk];exact h)];rfl
theorem ZpE (n:Value)(v tv:Value)(ls:List Lk)(f t r:Int)(w:World)(hls:ls.length<=1048576)(hv:ZaV w v ls w.heap.size):
  Calls Tryz.prog 108 #[.agg #[n,v,tv],M f,M t,M r] w fun e w'=>e=.returned (M (ZcR ls f t r))/\T_ w w':=by
 obtain⟨a,cap,rfl⟩:∃ a cap,v=.slice a ls.length cap:=by obtain ⟨a,cap,h,_⟩:=hv;exact⟨a,cap,h⟩
 have HV:=hide hv;clear hv
 go_enter Tryz.func108,Tryz.ntmps108
 go_wp2
 go_loopw [9] (fun i wr=>∃ k:Nat,k<=ls.length/\i=M k/\(∀ j,j<k->∀ l,ls[j]? = some l->ZbJ f t r l=false)/\T_ w wr/\wr.heap[w.heap.size]? = some (.cells #[n,.slice a ls.length cap,tv] 27)) (fun i _=>ls.length-(intOf i).toNat)
 case atStart=>exact ⟨0,by omega,rfl,by omega,(YAC _ _).alloc (YA _) _,YAE w _⟩
 case round=>
  obtain⟨k,hk,rfl,hno,hb,hx⟩:=hrel;have hx1:wr.cell? (U w.heap.size 1)=some (.slice a ls.length cap):=by rw [Zaa hx];rfl
  have HX:=hide hx;have HNO:=hide hno;clear hx hno;by_cases hlt:k<ls.length
  ·obtain ⟨l,hl⟩:∃ l,ls[k]? = some l:=⟨ls[k],YAA hlt⟩;obtain⟨b,off,cap',hve,hbb,c0,c1,c2,c3⟩:=HV.out.cells k l hl;cases hve;replace c0:=(hb.cell hbb).trans c0;replace c1:=(hb.cell hbb).trans c1;replace c2:=(hb.cell hbb).trans c2;replace c3:=(hb.cell hbb).trans c3;have HL:=hide hl;clear hl;obtain⟨la,lb,lc,lr⟩:=l;go_wp2
   all_goals first
    | (go_ret
       refine⟨Zd4 (Zi3 HNO HL ?_).symm,hb.alloc hb.size _⟩;clear HV HX HL HNO hb hx1 c0 c1 c2 c3;simp only [ZbJ];grind)
    | (refine ⟨⟨k+1,by omega,by go_num,ZgY HNO HL ?_,hb.alloc hb.size _,?_⟩,by simp [intOf];omega⟩
       ·clear HV HX HL HNO hb hx1 c0 c1 c2 c3;simp only [ZbJ];grind
       ·rw [YAL _ _ _ (Zab HX.out)];exact HX)
    | (subst_vars
       refine⟨⟨k+1,by omega,by go_num,ZgY HNO HL ?_,hb.alloc hb.size _,?_⟩,by simp [intOf];omega⟩
       ·clear HV HX HL HNO hb hx1 c0 c1 c2 c3;simp only [ZbJ];grind
       ·rw [YAL _ _ _ (Zab HX.out)];exact HX)
  ·have hk':k=ls.length:=by omega
   have HK:=hide hk';clear hk';go_wp2;go_ret;exact⟨Zd4 (Zj4 HNO HK).symm,hb⟩
def mk (q:Int)(i:Nat):Nr:=⟨q+2*(i:Int),q+2*(i:Int)+1⟩
theorem Zce (h:w.ownsRow base e size v n xs)(hn:0<n):
  ∃ g cap,v=.slice (some (U g 0)) n cap/\base<=g/\g<w.heap.size:=by
 rcases h.2 with ⟨_,h0⟩ | ⟨g,cap,cur,hv,hb,hg,_⟩
 ·omega
 ·exact ⟨g,cap,hv,hb,Zab hg⟩
theorem ZaM {g cap:Nat} (h:w.ownsRow base e size (.slice (some (U g 0)) n cap) n xs) (j:Nat) (hj:j<n*size):∃ u,w.cell? (U g j)=some u:=by
 rw [h.cellAt j hj];have hl:j<xs.length:=by rw [h.1];exact hj
 exact⟨_,YAA hl⟩
theorem Zbz (w:World)(r:Option Nat):w.grownBy w r:=⟨rfl,rfl,rfl,YA _,fun _ _ _=>rfl⟩
theorem Zc4 {a b:Int}(h:a=b):Ending.returned (M a)=.returned (M b):=by rw [h]
def Zat (x y:RecD):Bool:=x.area==y.area&&x.kind==y.kind&&x.owner==y.owner&&x.key==y.key
theorem ZkD (v1 v2:Value)(x y:RecD)(w:World):Calls Tryz.prog 72 #[.agg (recC x v1),.agg (recC y v2)] w fun e w'=>e=.returned (.bool (Zat x y))/\T_ w w':=by
 obtain⟨a0,a1,a2,a3,a4,ns,a6,a7⟩:=x;obtain⟨b0,b1,b2,b3,b4,ms,b6,b7⟩:=y;unfold recC;simp only []
 go_enter Tryz.func72,Tryz.ntmps72
 go_wp2
 all_goals go_ret
 all_goals refine ⟨Zai ?_,Zap _ _⟩
 all_goals (simp only [Zat];grind)
def Zam (x y:RecD):Bool:=decide (x.area<y.area)||(x.area==y.area&&(decide (x.kind<y.kind)||(x.kind==y.kind&&(decide (x.owner<y.owner)||(x.owner==y.owner&&decide (x.key<y.key))))))
theorem Zfp (v1 v2:Value)(x y:RecD)(w:World):Calls Tryz.prog 94 #[.agg (recC x v1),.agg (recC y v2)] w fun e w'=>e=.returned (.bool (Zam x y))/\T_ w w':=by
 obtain⟨a0,a1,a2,a3,a4,ns,a6,a7⟩:=x;obtain⟨b0,b1,b2,b3,b4,ms,b6,b7⟩:=y;unfold recC;simp only []
 go_enter Tryz.func94,Tryz.ntmps94
 go_wp2
 all_goals go_ret
 all_goals refine ⟨Zai ?_,Zap _ _⟩
 all_goals (simp only [Zam];grind)
def ZcB (owner:Int)(l:Nr):Bool:=inB l.to 1 6 && !(l.to==owner)&&inB l.c 1 1000
def ordN (p l:Nr):Int:=p.to-l.to
def Zbs (owner:Int)(ns:List Nr):Bool:=ZbV (ZcB owner) ns&&ascB ordN ns
theorem ZpH (v1:Value)(x:RecD)(w:World)(hl:x.near.length<=1048576)(hv:ZaG w v1 x.near w.heap.size):
  Calls Tryz.prog 170 #[.agg (recC x v1)] w fun e w'=>e=.returned (.bool (Zbs x.owner x.near))/\T_ w w':=by
 obtain⟨a1,c1,rfl⟩:=hv.shape;have HV:=hide hv;clear hv;unfold recC
 go_enter Tryz.func170,Tryz.ntmps170
 go_wp2
 go_loopw [3] (fun i wr=>∃ k:Nat,k<=x.near.length/\i=M k/\(∀ j,j<k->okAt (ZcB x.owner) x.near j=true)/\(∀ j,j<k->Zcm ordN x.near j=true)/\T_ w wr/\wr.heap[w.heap.size]? = some (.cells #[M x.area,M x.kind,M x.owner,M x.key,M x.seq,.slice a1 x.near.length c1,M x.cost,.bool x.far] 39)) (fun i _=>x.near.length-(intOf i).toNat)
 case atStart=>exact ⟨0,by omega,rfl,by omega,by omega,(YAC _ _).alloc (YA _) _,YAE w _⟩
 case round=>
  obtain⟨k,hk,rfl,hall,hasc,hnx,hx⟩:=hrel;have hxl:=Zab hx;have g5:=Zaa hx 5;simp at g5;have HALL:=hide hall;have HASC:=hide hasc;have HX:=hide hx;clear hall hasc hx;by_cases hlt:k<x.near.length
  ·obtain ⟨l,hl⟩:∃ l,x.near[k]? = some l:=⟨x.near[k],YAA hlt⟩;obtain⟨b,off,cap',hve,hbb,s0,s1⟩:=HV.out.cells k l hl;cases hve;replace s0:=(hnx.cell hbb).trans s0;replace s1:=(hnx.cell hbb).trans s1;have hzr:=hnx.size;have hbr:b<wr.heap.size:=by omega
   have hki:(0:Int)<=(k:Int):=by omega
   have hkj:(k:Int)<(x.near.length:Int):=by omega
   obtain⟨qt,hqt⟩:∃ q,q=inB l.to 1 6:=⟨_,rfl⟩;obtain⟨qc,hqc⟩:∃ q,q=inB l.c 1 1000:=⟨_,rfl⟩;have hok:ZcB x.owner l=(qt && !(l.to==x.owner)&&qc):=by unfold ZcB;rw [hqt,hqc]
   have HIT:=hide (ZbS l.to 1 6);have HIC:=hide (ZbS l.c 1 1000);rw [<-hqt] at HIT;rw [<-hqc] at HIC;have HAT1:=hide ((ZcE (ok:=ZcB x.owner) hl).trans hok);have HL:=hide hl;clear hqt hqc hok hl;obtain⟨wq,hwq⟩:∃ wq:World,wq=wr.alloc (.cells #[M l.to,M l.c] 106):=⟨_,rfl⟩;have BW:T_ w wq:=by rw [hwq];exact hnx.alloc hnx.size _
   have hb0:wq.heap[wr.heap.size]? = some (.cells #[M l.to,M l.c] 106):=by rw [hwq];exact YAE wr _
   have hx9:wq.heap[w.heap.size]? = some (.cells #[M x.area,M x.kind,M x.owner,M x.key,M x.seq,.slice (some (U b off)) x.near.length c1,M x.cost,.bool x.far] 39):=by rw [hwq,YAL _ _ _ hxl];exact HX
   go_wp2;rw [<-hwq];have g2:=Zaa hx9 2;have g5:=Zaa hx9 5;have e0:=Zaa hb0 0;have e1:=Zaa hb0 1;simp at g2 g5 e0 e1;have HX9:=hide hx9;obtain⟨z,hz⟩:∃ z,z=wr.heap.size:=⟨_,rfl⟩;rw [<-hz] at e0 e1 |-;clear hb0 hx9 hwq hz s0 s1;cases qt
   ·have hf:Zbs x.owner x.near=false:=by unfold Zbs ZbV;rw [ZaW hlt (HAT1.out.trans (by simp))];rfl
    have HF:=hide hf;clear hf;refine Zah (S:=(fun W=>W.cell? (U w.heap.size 2)=some (M x.owner)/\W.cell? (U w.heap.size 5)=some (.slice (some (U b off)) x.near.length c1)/\W.cell? (U z 0)=some (M l.to)/\W.cell? (U z 1)=some (M l.c))) (by kernel_rfl) 33 rfl ⟨g2,g5,e0,e1⟩ (fun ops hops hHeld=>?_)
    iterate 2 (refine TK 33 ?_;try simp only [putS])
    refine TC 2 ?_;intro K hK;go_simp;refine (HIT _).mono ?_;rintro e w1 ⟨rfl,rfl⟩;refine hK _ _ hHeld (fun _=>?_);clear hK K
    try simp only [putS]
    iterate 2 (refine TK 33 ?_;try simp only [putS])
    iterate 5 (refine TS 33 ?_;try simp only [putS])
    iterate 2 (refine TK 33 ?_;try simp only [putS])
    iterate 4 (refine TS 33 ?_;try simp only [putS])
    iterate 2 (refine TK 33 ?_;try simp only [putS])
    iterate 14 (refine TS 33 ?_;try simp only [putS])
    refine TK 33 ?_
    try simp only [putS]
    refine wpAnyH_done (by rw [hops.out];kernel_rfl) ?_ _;clear hops ops;go_wp2;go_ret;exact⟨Zai HF,BW.drew⟩
   by_cases how:l.to=x.owner
   ·have hoe:(l.to==x.owner)=true:=by simpa using how
    have hf:Zbs x.owner x.near=false:=by unfold Zbs ZbV;rw [ZaW hlt (HAT1.out.trans (by simp [hoe]))];rfl
    have HF:=hide hf;clear hf how;refine Zah (S:=(fun W=>W.cell? (U w.heap.size 2)=some (M x.owner)/\W.cell? (U w.heap.size 5)=some (.slice (some (U b off)) x.near.length c1)/\W.cell? (U z 0)=some (M l.to)/\W.cell? (U z 1)=some (M l.c))) (by kernel_rfl) 33 rfl ⟨g2,g5,e0,e1⟩ (fun ops hops hHeld=>?_)
    iterate 2 (refine TK 33 ?_;try simp only [putS])
    refine TC 2 ?_;intro K hK;go_simp;refine (HIT _).mono ?_;rintro e w1 ⟨rfl,rfl⟩;refine hK _ _ hHeld (fun _=>?_);clear hK K
    try simp only [putS]
    iterate 6 (refine TK 33 ?_;try simp only [putS])
    refine TK 33 (v:=.bool true) ?_ (hy:=by intro W hW;(try dsimp only at hW);go_simp <;> (first | with_reducible rfl | (simp;omega) | omega))
    try simp only [putS]
    iterate 2 (refine TK 33 ?_;try simp only [putS])
    iterate 4 (refine TS 33 ?_;try simp only [putS])
    iterate 2 (refine TK 33 ?_;try simp only [putS])
    iterate 14 (refine TS 33 ?_;try simp only [putS])
    refine TK 33 ?_
    try simp only [putS]
    refine wpAnyH_done (by rw [hops.out];kernel_rfl) ?_ _;clear hops ops;go_wp2;go_ret;exact⟨Zai HF,BW.drew⟩
   have hoe:(l.to==x.owner)=false:=by simpa using how
   have HAT1:Hid (okAt (ZcB x.owner) x.near k=qc):=HAT1.out.trans (by simp [hoe]);clear how;cases qc
   ·have hf:Zbs x.owner x.near=false:=by unfold Zbs ZbV;rw [ZaW hlt HAT1.out];rfl
    have HF:=hide hf;clear hf;refine Zah (S:=(fun W=>W.cell? (U w.heap.size 2)=some (M x.owner)/\W.cell? (U w.heap.size 5)=some (.slice (some (U b off)) x.near.length c1)/\W.cell? (U z 0)=some (M l.to)/\W.cell? (U z 1)=some (M l.c))) (by kernel_rfl) 33 rfl ⟨g2,g5,e0,e1⟩ (fun ops hops hHeld=>?_)
    iterate 2 (refine TK 33 ?_;try simp only [putS])
    refine TC 2 ?_;intro K hK;go_simp;refine (HIT _).mono ?_;rintro e w1 ⟨rfl,rfl⟩;refine hK _ _ hHeld (fun _=>?_);clear hK K
    try simp only [putS]
    iterate 6 (refine TK 33 ?_;try simp only [putS])
    refine TK 33 (v:=.bool false) ?_ (hy:=by intro W hW;(try dsimp only at hW);go_simp <;> (first | with_reducible rfl | (simp;omega) | omega))
    try simp only [putS]
    iterate 4 (refine TK 33 ?_;try simp only [putS])
    refine TC 14 ?_;intro K hK;go_simp;refine (HIC _).mono ?_;rintro e w1 ⟨rfl,rfl⟩;refine hK _ _ hHeld (fun _=>?_);clear hK K
    try simp only [putS]
    iterate 3 (refine TK 33 ?_;try simp only [putS])
    iterate 14 (refine TS 33 ?_;try simp only [putS])
    refine TK 33 ?_
    try simp only [putS]
    refine wpAnyH_done (by rw [hops.out];kernel_rfl) ?_ _;clear hops ops;go_wp2;go_ret;exact⟨Zai HF,BW.drew⟩
   by_cases hk0:k=0
   ·have hk1:¬(0:Int)<(k:Int):=by omega
    have hat2:Zcm ordN x.near k=true:=by rw [hk0];rfl
    have HAT2:=hide hat2;clear hat2 hk0;refine Zah (S:=(fun W=>W.cell? (U w.heap.size 2)=some (M x.owner)/\W.cell? (U w.heap.size 5)=some (.slice (some (U b off)) x.near.length c1)/\W.cell? (U z 0)=some (M l.to)/\W.cell? (U z 1)=some (M l.c))) (by kernel_rfl) 33 rfl ⟨g2,g5,e0,e1⟩ (fun ops hops hHeld=>?_)
    iterate 2 (refine TK 33 ?_;try simp only [putS])
    refine TC 2 ?_;intro K hK;go_simp;refine (HIT _).mono ?_;rintro e w1 ⟨rfl,rfl⟩;refine hK _ _ hHeld (fun _=>?_);clear hK K
    try simp only [putS]
    iterate 6 (refine TK 33 ?_;try simp only [putS])
    refine TK 33 (v:=.bool false) ?_ (hy:=by intro W hW;(try dsimp only at hW);go_simp <;> (first | with_reducible rfl | (simp;omega) | omega))
    try simp only [putS]
    iterate 4 (refine TK 33 ?_;try simp only [putS])
    refine TC 14 ?_;intro K hK;go_simp;refine (HIC _).mono ?_;rintro e w1 ⟨rfl,rfl⟩;refine hK _ _ hHeld (fun _=>?_);clear hK K
    try simp only [putS]
    iterate 4 (refine TK 33 ?_;try simp only [putS])
    refine TK 33 (v:=.bool false) ?_ (hy:=by intro W hW;(try dsimp only at hW);go_simp <;> (first | with_reducible rfl | (simp;omega) | omega))
    try simp only [putS]
    refine TK 33 ?_
    try simp only [putS]
    iterate 10 (refine TS 33 ?_;try simp only [putS])
    iterate 2 (refine TK 33 ?_;try simp only [putS])
    refine wpAnyH_done (by rw [hops.out];kernel_rfl) ?_ _;clear hops ops;go_wp2;exact⟨⟨k+1,by omega,by go_num,ZaT HALL HAT1,ZaT HASC HAT2,BW.drew,HX9⟩,by simp [intOf];omega⟩
   ·obtain ⟨j,hj⟩:∃ j,k=j+1:=⟨k-1,by omega⟩;obtain⟨p,hp⟩:∃ p,x.near[j]? = some p:=⟨x.near[j],YAA (by omega)⟩;obtain⟨b',off',cap2,hve2,hbb2,t0,t1⟩:=HV.out.cells j p hp;cases hve2;replace t0:=(BW.cell hbb).trans t0;have hat2:Zcm ordN x.near k=decide (p.to-l.to<0):=by rw [hj];exact Zb9 hp (by rw [<-hj];exact HL)
    have HAT2:=hide hat2;have hj1:(k:Int)-1=(j:Int):=by omega
    have hj2:(0:Int)<=(j:Int):=by omega
    have hj3:(j:Int)<(x.near.length:Int):=by omega
    have hj4:(0:Int)<(k:Int):=by omega
    have hj5:IntKind.i64.wrap (j:Int)=(j:Int):=ZaN _ (by omega) (by omega);clear hp hat2 hj hk0 hbb2 t1;by_cases hpl:p.to<l.to
    ·have hd:decide (p.to-l.to<0)=true:=YAc (by omega);have HAT3:Hid (Zcm ordN x.near k=true):=HAT2.out.trans hd;have hpl2:¬l.to<=p.to:=by omega
     clear hd HAT2;refine Zah (S:=(fun W=>W.cell? (U w.heap.size 2)=some (M x.owner)/\W.cell? (U w.heap.size 5)=some (.slice (some (U b off)) x.near.length c1)/\W.cell? (U z 0)=some (M l.to)/\W.cell? (U z 1)=some (M l.c)/\W.cell? (U b (off+j*2))=some (M p.to))) (by kernel_rfl) 33 rfl ⟨g2,g5,e0,e1,t0⟩ (fun ops hops hHeld=>?_)
     iterate 2 (refine TK 33 ?_;try simp only [putS])
     refine TC 2 ?_;intro K hK;go_simp;refine (HIT _).mono ?_;rintro e w1 ⟨rfl,rfl⟩;refine hK _ _ hHeld (fun _=>?_);clear hK K
     try simp only [putS]
     iterate 6 (refine TK 33 ?_;try simp only [putS])
     refine TK 33 (v:=.bool false) ?_ (hy:=by intro W hW;(try dsimp only at hW);go_simp <;> (first | with_reducible rfl | (simp;omega) | omega))
     try simp only [putS]
     iterate 4 (refine TK 33 ?_;try simp only [putS])
     refine TC 14 ?_;intro K hK;go_simp;refine (HIC _).mono ?_;rintro e w1 ⟨rfl,rfl⟩;refine hK _ _ hHeld (fun _=>?_);clear hK K
     try simp only [putS]
     iterate 4 (refine TK 33 ?_;try simp only [putS])
     refine TK 33 (v:=.bool true) ?_ (hy:=by intro W hW;(try dsimp only at hW);go_simp <;> (first | with_reducible rfl | (simp;omega) | omega))
     try simp only [putS]
     iterate 13 (refine TK 33 ?_;try simp only [putS])
     refine wpAnyH_done (by rw [hops.out];kernel_rfl) ?_ _;clear hops ops;go_wp2;exact⟨⟨k+1,by omega,by go_num,ZaT HALL HAT1,ZaT HASC HAT3,BW.drew,HX9⟩,by simp [intOf];omega⟩
    ·have hd:decide (p.to-l.to<0)=false:=YAZ (by omega);have hf:Zbs x.owner x.near=false:=by unfold Zbs ascB;rw [ZaW hlt (HAT2.out.trans hd)];simp
     have HF:=hide hf;have hpl2:l.to<=p.to:=by omega
     clear hd hf HAT2;refine Zah (S:=(fun W=>W.cell? (U w.heap.size 2)=some (M x.owner)/\W.cell? (U w.heap.size 5)=some (.slice (some (U b off)) x.near.length c1)/\W.cell? (U z 0)=some (M l.to)/\W.cell? (U z 1)=some (M l.c)/\W.cell? (U b (off+j*2))=some (M p.to))) (by kernel_rfl) 33 rfl ⟨g2,g5,e0,e1,t0⟩ (fun ops hops hHeld=>?_)
     iterate 2 (refine TK 33 ?_;try simp only [putS])
     refine TC 2 ?_;intro K hK;go_simp;refine (HIT _).mono ?_;rintro e w1 ⟨rfl,rfl⟩;refine hK _ _ hHeld (fun _=>?_);clear hK K
     try simp only [putS]
     iterate 6 (refine TK 33 ?_;try simp only [putS])
     refine TK 33 (v:=.bool false) ?_ (hy:=by intro W hW;(try dsimp only at hW);go_simp <;> (first | with_reducible rfl | (simp;omega) | omega))
     try simp only [putS]
     iterate 4 (refine TK 33 ?_;try simp only [putS])
     refine TC 14 ?_;intro K hK;go_simp;refine (HIC _).mono ?_;rintro e w1 ⟨rfl,rfl⟩;refine hK _ _ hHeld (fun _=>?_);clear hK K
     try simp only [putS]
     iterate 4 (refine TK 33 ?_;try simp only [putS])
     refine TK 33 (v:=.bool true) ?_ (hy:=by intro W hW;(try dsimp only at hW);go_simp <;> (first | with_reducible rfl | (simp;omega) | omega))
     try simp only [putS]
     iterate 13 (refine TK 33 ?_;try simp only [putS])
     refine wpAnyH_done (by rw [hops.out];kernel_rfl) ?_ _;clear hops ops;go_wp2;go_ret;exact⟨Zai HF,BW.drew⟩
  ·have hfin:Zbs x.owner x.near=true:=by
    have e1:ZbV (ZcB x.owner) x.near=true:=Zbi fun i hi=>HALL i (by omega);have e2:ascB ordN x.near=true:=Zbi fun i hi=>HASC i (by omega);unfold Zbs;rw [e1,e2];rfl
   have HFIN:=hide hfin;clear hfin;go_wp2;go_ret;exact⟨Zai HFIN,hnx⟩
def ZeW (x:RecD)(v1:Value):Value:=
 if x.kind=1 then .tuple #[.iface 263 (.agg (recC x v1)),.bool true]
 else if x.kind=2 then .tuple #[.iface 264 (.agg (recC x v1)),.bool true]
 else if x.kind=3 then .tuple #[.iface 265 (.agg (recC x v1)),.bool true]
 else .tuple #[.nilIface,.bool false]
theorem ZqH (v1:Value)(x:RecD)(w:World):
  Calls Tryz.prog 192 #[.agg (recC x v1)] w fun e w'=>e=.returned (ZeW x v1)/\T_ w w':=by
 have hV:ZeW x v1=ZeW x v1:=rfl;obtain⟨area,kind,owner,key,seq,ns,cost,far⟩:=x;by_cases hk1:kind=1
 ·subst hk1;have e:ZeW ⟨area,1,owner,key,seq,ns,cost,far⟩ v1=.tuple #[.iface 263 (.agg (recC ⟨area,1,owner,key,seq,ns,cost,far⟩ v1)),.bool true]:=rfl;rw [e];unfold recC;simp only [];clear e hV
  go_enter Tryz.func192,Tryz.ntmps192
  go_wp2;go_ret2;exact⟨rfl,(YAC _ _).alloc (YA _) _⟩
 have k1:(kind==1)=false:=by simpa using hk1
 by_cases hk2:kind=2
 ·subst hk2;have e:ZeW ⟨area,2,owner,key,seq,ns,cost,far⟩ v1=.tuple #[.iface 264 (.agg (recC ⟨area,2,owner,key,seq,ns,cost,far⟩ v1)),.bool true]:=rfl;rw [e];unfold recC;simp only [];clear e hV k1 hk1
  go_enter Tryz.func192,Tryz.ntmps192
  go_wp2;go_ret2;exact⟨rfl,(YAC _ _).alloc (YA _) _⟩
 have k2:(kind==2)=false:=by simpa using hk2
 by_cases hk3:kind=3
 ·subst hk3;have e:ZeW ⟨area,3,owner,key,seq,ns,cost,far⟩ v1=.tuple #[.iface 265 (.agg (recC ⟨area,3,owner,key,seq,ns,cost,far⟩ v1)),.bool true]:=rfl;rw [e];unfold recC;simp only [];clear e hV k1 hk1 k2 hk2
  go_enter Tryz.func192,Tryz.ntmps192
  go_wp2;go_ret2;exact⟨rfl,(YAC _ _).alloc (YA _) _⟩
 have k3:(kind==3)=false:=by simpa using hk3
 have e:ZeW ⟨area,kind,owner,key,seq,ns,cost,far⟩ v1=.tuple #[.nilIface,.bool false]:=by unfold ZeW;rw [if_neg hk1,if_neg hk2,if_neg hk3]
 rw [e];unfold recC;simp only [];clear e hV hk1 hk2 hk3
 go_enter Tryz.func192,Tryz.ntmps192
 go_wp2;go_ret2;exact⟨rfl,(YAC _ _).alloc (YA _) _⟩
theorem ZlJ (v1:Value)(x:RecD)(w:World):
  Calls Tryz.prog 330 #[.agg (recC x v1)] w fun e w'=>e=.returned (.bool (inB x.area 0 2&&x.key==0))/\T_ w w':=by
 obtain⟨area,kind,owner,key,seq,ns,cost,far⟩:=x;unfold recC;simp only [];have H1:=hide (Zba area 0 2);obtain⟨q1,hq1⟩:∃ q,q=inB area 0 2:=⟨_,rfl⟩;rw [<-hq1] at H1 |-;clear hq1
 go_enter Tryz.func330,Tryz.ntmps330
 go_wp2_with fail
 refine (H1 _).mono ?_;rintro e w1 ⟨rfl,rfl⟩;cases q1
 ·go_wp2;go_ret;exact⟨by simp,(YAC _ _).alloc (YA _) _⟩
 ·go_wp2;go_ret;exact⟨by simp,(YAC _ _).alloc (YA _) _⟩
theorem ZiS (v1:Value)(x:RecD)(w:World):
  Calls Tryz.prog 331 #[.agg (recC x v1)] w fun e w'=>e=.returned (.bool (inB x.area 0 2&&inB x.key 1 6))/\T_ w w':=by
 obtain⟨area,kind,owner,key,seq,ns,cost,far⟩:=x;unfold recC;simp only [];have H1:=hide (Zba area 0 2);have H2:=hide (Zba key 1 6);obtain⟨q1,hq1⟩:∃ q,q=inB area 0 2:=⟨_,rfl⟩;obtain⟨q2,hq2⟩:∃ q,q=inB key 1 6:=⟨_,rfl⟩;rw [<-hq1] at H1 |-;rw [<-hq2] at H2 |-;clear hq1 hq2
 go_enter Tryz.func331,Tryz.ntmps331
 go_wp2_with fail
 refine (H1 _).mono ?_;rintro e w1 ⟨rfl,rfl⟩;cases q1
 ·go_wp2;go_ret;exact⟨by simp,(YAC _ _).alloc (YA _) _⟩
 ·go_wp2_with fail
  refine (H2 _).mono ?_;rintro e w1 ⟨rfl,rfl⟩;go_wp2;go_ret;exact⟨by simp,(YAC _ _).alloc (YA _) _⟩
theorem ZkK (v1:Value)(x:RecD)(w:World):
  Calls Tryz.prog 332 #[.agg (recC x v1)] w fun e w'=>e=.returned (.bool (x.area==9&&inB x.key 1 9))/\T_ w w':=by
 obtain⟨area,kind,owner,key,seq,ns,cost,far⟩:=x;unfold recC;simp only [];have H2:=hide (Zba key 1 9);obtain⟨q2,hq2⟩:∃ q,q=inB key 1 9:=⟨_,rfl⟩;rw [<-hq2] at H2 |-;clear hq2;by_cases ha:area=9
 ·subst ha
  go_enter Tryz.func332,Tryz.ntmps332
  go_wp2_with fail
  refine (H2 _).mono ?_;rintro e w1 ⟨rfl,rfl⟩;go_wp2;go_ret;exact⟨by simp,(YAC _ _).alloc (YA _) _⟩
 ·have hd:(area==9)=false:=by simpa using ha
  go_enter Tryz.func332,Tryz.ntmps332
  go_wp2;go_ret;exact⟨by simp [hd],(YAC _ _).alloc (YA _) _⟩
theorem Zg5 (w:World)(r:Option Nat):w.grownBy w r:=⟨rfl,rfl,rfl,YA _,fun _ _ _=>rfl⟩
theorem Zo6 (v:Value)(base:Nat)(xs:List Int)(q:Int)(w:World)(h1:w.ownsRow base 3 1 v xs.length (flat intE xs))(hn:xs.length<=1048576)(hq:0<=q)(hq2:q<=1000000000):
  Calls Tryz.prog 101 #[v,M q] w fun e w'=>e=.returned (M (q+(xs.length:Int)))/\w'.ownsRow base 3 1 v xs.length (flat intE (Zdt q xs.length))/\w.grownBy w' v.ownBlock:=by
 rw [ZbL] at h1;rw [ZbL];by_cases h0:xs.length=0
 ·have hx:xs=[]:=List.length_eq_zero_iff.1 h0;subst hx;obtain⟨a1,c1,rfl⟩:=Zcq h1;have H1:=hide h1;clear h1 h0
  go_enter Tryz.func101,Tryz.ntmps101
  go_wp2;refine wp_loop_rounds 1 ?_;rw [rounds_succ];go_wp2;go_ret;exact⟨by simp,H1,Zg5 _ _⟩
 ·obtain ⟨g1,c1,rfl,hg1,hl1⟩:=ZdM h1 (by omega);obtain⟨n,hnn⟩:∃ n,n=xs.length:=⟨_,rfl⟩;have NN:=hide hnn;rw [<-hnn] at hn h1 |-;clear hnn h0
  go_enter Tryz.func101,Tryz.ntmps101
  go_wp2
  go_loopw [5,1] (fun i r wr=>∃ k:Nat,k<=n/\i=M k/\r=M (q+(k:Int))/\wr.ownsRow base 3 1 (.slice (some (U g1 0)) n c1) n (Za5 (ZdY q k xs))/\w.grownBy wr (some g1)) (fun i _ _=>n-(intOf i).toNat)
  case atStart=>exact ⟨0,by omega,rfl,by simp,h1,Zg5 _ _⟩
  case round=>
   clear h1;obtain⟨k,hk,rfl,rfl,hown,hnx⟩:=hrel;by_cases hlt:k<n
   ·have hki:(0:Int)<=(k:Int):=by omega
    have hkj:(k:Int)<(n:Int):=by omega
    have hfr1:=hown.frozenAt k;have hcl1:∃ t,wr.cell? (U g1 k)=some (M t):=by
     rw [hown.cellAt k (by omega)];have hl:k<(ZdY q k xs).length:=by rw [ZhZ];have:=NN.out;omega;have:=NN.out;omega
     exact⟨(ZdY q k xs)[k],by simp [Za5,YAA hl]⟩
    obtain⟨t,hcl⟩:=hcl1;have hst:=hown.stored k (M (q+(k:Int)));rw [Znl,Zkm q k xs (by have:=NN.out;omega)] at hst;have ST:=hide hst.1;clear hst hown;go_wp2;go_roundw
    case rel=>exact ⟨k+1,by omega,by go_num,by go_num,ST,Zaj hnx (Zak _ _ _ _)⟩
    case measure=>exact MS_
   ·have hkn:k=n:=by omega
    have KN:=hide hkn;have OW:=hide hown;clear hkn hown;go_wp2;go_ret;refine⟨Zd4 (by rw [KN.out]),?_,hnx⟩;have h:=OW.out;rw [KN.out] at h;unfold ZdY at h;rw [List.drop_eq_nil_of_le (by have:=NN.out;omega),List.append_nil] at h;exact h
theorem ZoI (v:Value)(n:Nat)(q:Int)(w:World)(h1:ZaI w v (Zdt q n) w.heap.size)(hn:n<=1048576)(hq:0<=q)(hq2:q<=1000000000):
  Calls Tryz.prog 104 #[v,M q] w fun e w'=>e=.returned (M (q+(n:Int)))/\w=w':=by
 obtain⟨a1,c1,rfl,k1⟩:=h1.ints;rw [Zbr] at k1 |-;have K1:=hide k1;clear k1 h1
 go_enter Tryz.func104,Tryz.ntmps104
 go_wp2
 go_loop [5,1] (fun i r=>∃ k:Nat,k<=n/\i=M k/\r=M (q+(k:Int))) (fun i _=>n-(intOf i).toNat)
 case atStart=>exact ⟨0,by omega,rfl,by simp⟩
 case round=>
  obtain⟨k,hk,rfl,rfl⟩:=hrel;by_cases hlt:k<n
  ·obtain ⟨b1,o1,ha1,hb1,d1⟩:∃ b1 o1,a1=some (U b1 o1)/\b1<w.heap.size/\w.cell? (U b1 (o1+k))=some (M (q+(k:Int))):=by
    rcases K1.out with h0 | ⟨b,off,ha,hb,hx⟩
    ·omega
    ·exact ⟨b,off,ha,hb,by rw [hx k (by omega)];simp only [intC,Zio q n k hlt]⟩
   subst ha1;have hki:(0:Int)<=(k:Int):=by omega
   have hkj:(k:Int)<(n:Int):=by omega
   go_wp2
   go_round
   case rel=>exact ⟨k+1,by omega,by go_num,by go_num⟩
   case measure=>exact MS_
  ·have hkn:k=n:=by omega
   have KN:=hide hkn;clear hkn;go_wp2;go_ret;exact⟨Zd4 (by rw [KN.out]),rfl⟩
def Zbp (x y:WayD):Bool:=decide (x.cost<y.cost)
theorem ZhB (u1 u2:Value)(x y:WayD)(w:World):Calls Tryz.prog 253 #[.agg (wayC x u1),.agg (wayC y u2)] w fun e w'=>e=.returned (.bool (Zbp x y))/\T_ w w':=by
 unfold wayC Zbp
 go_enter Tryz.func253,Tryz.ntmps253
 go_wp2;go_ret;exact⟨rfl,Zap _ _⟩
theorem Zcz (u1 u2:Value)(x y:WayD)(w:World):Calls Tryz.prog 260 #[.agg (wayC x u1),.agg (wayC y u2)] w fun e w'=>e=.returned (.bool (Zbp x y))/\T_ w w':=by
 unfold wayC Zbp
 go_enter Tryz.func260,Tryz.ntmps260
 go_wp2;go_ret;exact⟨rfl,Zap _ _⟩
def orN:List Int->Int
 | []=>0
 | x::xs=>if x=0 then orN xs else x
theorem Zjm :∀ (k:Nat)(l:List Int),(∀ j,j<k->l.getD j 0=0)->orN l=orN (l.drop k)
 | 0,l,_=>by simp
 | k+1,[],_=>by simp
 | k+1,x::xs,h=>by
  have h0:x=0:=by simpa using h 0 (by omega)
  subst h0;have e:orN (0::xs)=orN xs:=by simp [orN]
  rw [e,List.drop_succ_cons];exact Zjm k xs (fun j hj=>by simpa using h (j+1) (by omega))
theorem orN_at {l:List Int}(h:∀ j,j<k->l.getD j 0=0)(hk:k<l.length)(hx:l.getD k 0≠0):orN l=l.getD k 0:=by
 rw [Zjm k l h,YAk hk];have e:l.getD k 0=l[k]:=by simp [YAA hk]
 rw [e] at hx |-;simp only [orN];rw [if_neg hx]
theorem ZqZ {l:List Int}(h:∀ j,j<k->l.getD j 0=0)(hk:k=l.length):orN l=0:=by
 rw [Zjm k l h,List.drop_of_length_le (by omega)];rfl
theorem ZrG (b n:Nat)(l:List Int)(w:World)(hn:n=l.length)(hs:l.length<=1000)(hc:∀ j,j<l.length->w.cell? (U b j)=some (M (l.getD j 0))):
  Calls Tryz.prog 203 #[.slice (some (U b 0)) n n] w fun e w'=>e=.returned (M (orN l))/\w=w':=by
 subst hn;have HC:=hide hc;clear hc
 go_enter Tryz.func203,Tryz.ntmps203
 go_wp2
 go_loopw [8] (fun i wr=>∃ k:Nat,k<=l.length/\i=M k/\(∀ j,j<k->l.getD j 0=0)/\w=wr) (fun i _=>l.length-(intOf i).toNat)
 case atStart=>exact ⟨0,by omega,rfl,by omega,rfl⟩
 case round=>
  obtain⟨k,hk,rfl,hno,rfl⟩:=hrel;have HNO:=hide hno;clear hno;by_cases hlt:k<l.length
  ·have hcell:=HC.out k hlt;by_cases h0:l.getD k 0=0
   ·have hnx:∀ j,j<k+1->l.getD j 0=0:=fun j hj=>by
     by_cases e:j=k
     ·subst e;exact h0
     ·exact HNO j (by omega)
    rw [h0] at hcell;have HN:=hide hnx;clear h0 hnx;go_wp2;go_roundw
    case rel=>exact ⟨k+1,by omega,by go_num,HN,trivial⟩
    case measure=>exact MS_
   ·obtain ⟨y,hy⟩:∃ y,y=l.getD k 0:=⟨_,rfl⟩;rw [<-hy] at hcell h0;have hor:orN l=y:=by rw [hy];exact orN_at HNO.out hlt (by rw [<-hy];exact h0)
    have HO:=hide hor;clear hy hor;go_wp2;go_ret;exact⟨Zkz HO,rfl⟩
  ·have hk':k=l.length:=by omega
   have HK:=hide hk';clear hk';go_wp2;go_ret;exact⟨Zkz (ZqZ HNO HK),rfl⟩
theorem Zq0 (b:Nat)(x y z:Int)(w:World)(h0:w.cell? (U b 0)=some (M x))(h1:w.cell? (U b 1)=some (M y))(h2:w.cell? (U b 2)=some (M z)):
  Calls Tryz.prog 203 #[.slice (some (U b 0)) 3 3] w fun e w'=>e=.returned (M (orN [x,y,z]))/\w=w':=
 ZrG b 3 [x,y,z] w rfl (by simp) (fun j hj=>by
  match j,hj with
  | 0,_=>exact h0
  | 1,_=>exact h1
  | 2,_=>exact h2
  | j+3,hj=>exact absurd hj (by simp only [YAm,List.length_nil];omega))
theorem ZmG (b:Nat)(x y:Int)(w:World)(h0:w.cell? (U b 0)=some (M x))(h1:w.cell? (U b 1)=some (M y)):
  Calls Tryz.prog 203 #[.slice (some (U b 0)) 2 2] w fun e w'=>e=.returned (M (orN [x,y]))/\w=w':=
 ZrG b 2 [x,y] w rfl (by simp) (fun j hj=>by
  match j,hj with
  | 0,_=>exact h0
  | 1,_=>exact h1
  | j+2,hj=>exact absurd hj (by simp only [YAm,List.length_nil];omega))
theorem Zd0 (w1:World)(cs:Array Value)(t:TypeId)(j:Nat)(v:Value)(h:cs[j]? = some v):(w1.alloc (.cells cs t)).drew.cell? (U w1.heap.size j)=some v:=by
 have:=Zaa (YAE w1 (.cells cs t)) j;rw [h] at this;exact this
def ordL (l m:Lk):Int:=orN [cmpN l.a m.a,cmpN l.b m.b,cmpN l.r m.r]
def ordT (l m:Th):Int:=orN [cmpN l.k m.k,cmpN l.o m.o]
theorem Zq1 (l m:Lk)(w:World):Calls Tryz.prog 199 #[lkV l,lkV m] w fun e w'=>e=.returned (M (ordL l m))/\T_ w w':=by
 obtain⟨a,b,c,r⟩:=l;obtain⟨a',b',c',r'⟩:=m;unfold lkV ordL;simp only []
 go_enter Tryz.func199,Tryz.ntmps199
 go_wp2;obtain⟨w1,hw1⟩:∃ w1,w1=(w.alloc (.cells #[M a,M b,M c,M r] 173)).alloc (.cells #[M a',M b',M c',M r'] 173):=⟨_,rfl⟩;have B1:T_ w w1:=by rw [hw1];exact Zap _ _
 have p0:w1.heap[w.heap.size]? = some (.cells #[M a,M b,M c,M r] 173):=by rw [hw1,YAL _ _ _ (by simp),YAE]
 have q0:w1.heap[w.heap.size+1]? = some (.cells #[M a',M b',M c',M r'] 173):=by
  rw [hw1];have:=YAE (w.alloc (.cells #[M a,M b,M c,M r] 173)) (.cells #[M a',M b',M c',M r'] 173);simpa using this
 rw [<-hw1];clear hw1;have s0:=Zaa p0 0;have s1:=Zaa p0 1;have s3:=Zaa p0 3;have t0:=Zaa q0 0;have t1:=Zaa q0 1;have t3:=Zaa q0 3;have hz0:=Zab p0;have hz1:=Zab q0;simp at s0 s1 s3 t0 t1 t3;clear p0 q0;have hz2:=B1.size
 go_region_held3 (fun W=>W.cell? (U w.heap.size 0)=some (M a)/\W.cell? (U w.heap.size 1)=some (M b)/\W.cell? (U w.heap.size 3)=some (M r)/\W.cell? (U (w.heap.size+1) 0)=some (M a')/\W.cell? (U (w.heap.size+1) 1)=some (M b')/\W.cell? (U (w.heap.size+1) 3)=some (M r')) (first | go_keep | assumption) (first | (go_at_call 204;refine (Zbm _ _ _).mono ?_;rintro e w' ⟨rfl,rfl⟩) | (go_at_call 203;refine (Zq0 _ (cmpN a a') (cmpN b b') (cmpN r r') _ ?_ ?_ ?_).mono ?_;(exact Zd0 _ _ _ _ _ rfl);(exact Zd0 _ _ _ _ _ rfl);(exact Zd0 _ _ _ _ _ rfl);rintro e w' ⟨rfl,rfl⟩))
 go_wp2;go_ret;exact⟨rfl,B1.drew.alloc B1.size _⟩
theorem Zq2 (l m:Th)(w:World):Calls Tryz.prog 201 #[thV l,thV m] w fun e w'=>e=.returned (M (ordT l m))/\T_ w w':=by
 obtain⟨o,k,c,f⟩:=l;obtain⟨o',k',c',f'⟩:=m;unfold thV ordT;simp only []
 go_enter Tryz.func201,Tryz.ntmps201
 go_wp2;obtain⟨w1,hw1⟩:∃ w1,w1=(w.alloc (.cells #[M o,M k,M c,.bool f] 119)).alloc (.cells #[M o',M k',M c',.bool f'] 119):=⟨_,rfl⟩;have B1:T_ w w1:=by rw [hw1];exact Zap _ _
 have p0:w1.heap[w.heap.size]? = some (.cells #[M o,M k,M c,.bool f] 119):=by rw [hw1,YAL _ _ _ (by simp),YAE]
 have q0:w1.heap[w.heap.size+1]? = some (.cells #[M o',M k',M c',.bool f'] 119):=by
  rw [hw1];have:=YAE (w.alloc (.cells #[M o,M k,M c,.bool f] 119)) (.cells #[M o',M k',M c',.bool f'] 119);simpa using this
 rw [<-hw1];clear hw1;have s0:=Zaa p0 0;have s1:=Zaa p0 1;have t0:=Zaa q0 0;have t1:=Zaa q0 1;have hz0:=Zab p0;have hz1:=Zab q0;simp at s0 s1 t0 t1;clear p0 q0;have hz2:=B1.size
 go_region_held3 (fun W=>W.cell? (U w.heap.size 0)=some (M o)/\W.cell? (U w.heap.size 1)=some (M k)/\W.cell? (U (w.heap.size+1) 0)=some (M o')/\W.cell? (U (w.heap.size+1) 1)=some (M k')) (first | go_keep | assumption) (first | (go_at_call 204;refine (Zbm _ _ _).mono ?_;rintro e w' ⟨rfl,rfl⟩) | (go_at_call 203;refine (ZmG _ (cmpN k k') (cmpN o o') _ ?_ ?_).mono ?_;(exact Zd0 _ _ _ _ _ rfl);(exact Zd0 _ _ _ _ _ rfl);rintro e w' ⟨rfl,rfl⟩))
 go_wp2;go_ret;exact⟨rfl,B1.drew.alloc B1.size _⟩
structure RtD where
 thing:Bool
 to:Int
 kind:Int
 cost:Int
 far:Int
 hops:List Int
 deriving DecidableEq
def rtC (x:RtD)(v:Value):Array Value:=#[.bool x.thing,M x.to,M x.kind,M x.cost,M x.far,v]
def RtAt (W:World)(v:Value)(x:RtD)(B:Nat):Prop:=∃ v1,v=.agg (rtC x v1)/\ZaI W v1 x.hops B
theorem RtAt.then {x:RtD}(h:RtAt W v x W.heap.size)(hb:T_ W W'):RtAt W' v x W'.heap.size:=by
 obtain⟨v1,hv,h1⟩:=h;exact⟨v1,hv,h1.then hb⟩
theorem Zk9 (v1 v2:Value)(x y:RtD)(w:World)(h1:RtAt w v1 x w.heap.size)(h2:RtAt w v2 y w.heap.size)(hl:x.hops.length<=1048576):
  Calls Tryz.prog 121 #[v1,v2] w fun e w'=>e=.returned (.bool (decide (x=y)))/\T_ w w':=by
 obtain⟨a0,a1,a2,a3,a4,ns⟩:=x;obtain⟨b0,b1,b2,b3,b4,ms⟩:=y;obtain⟨u1,rfl,k1⟩:=h1;obtain⟨u2,rfl,k2⟩:=h2;simp only [] at k1 k2 hl;have K1:=hide k1;have K2:=hide k2;clear k1 k2;unfold rtC;simp only [];by_cases h0:a0=b0
 case neg=>
  have hd:(!(a0==b0))=true:=by cases a0 <;> cases b0 <;> simp_all
  have hne:decide ((⟨a0,a1,a2,a3,a4,ns⟩:RtD)=⟨b0,b1,b2,b3,b4,ms⟩)=false:=YAZ (fun h=>by cases h;exact h0 rfl);rw [hne];clear hne
  go_enter Tryz.func121,Tryz.ntmps121
  go_wp2;go_ret;exact⟨rfl,Zap _ _⟩
 subst h0;have hb0:(!(a0==a0))=false:=by cases a0 <;> rfl
 by_cases h1:a1=b1
 case neg=>
  have hd:(a1 != b1)=true:=by simpa using h1
  have hne:decide ((⟨a0,a1,a2,a3,a4,ns⟩:RtD)=⟨a0,b1,b2,b3,b4,ms⟩)=false:=YAZ (fun h=>by cases h;exact h1 rfl);rw [hne];clear hne
  go_enter Tryz.func121,Tryz.ntmps121
  go_wp2;go_ret;exact⟨rfl,Zap _ _⟩
 subst h1;by_cases h2:a2=b2
 case neg=>
  have hd:(a2 != b2)=true:=by simpa using h2
  have hne:decide ((⟨a0,a1,a2,a3,a4,ns⟩:RtD)=⟨a0,a1,b2,b3,b4,ms⟩)=false:=YAZ (fun h=>by cases h;exact h2 rfl);rw [hne];clear hne
  go_enter Tryz.func121,Tryz.ntmps121
  go_wp2;go_ret;exact⟨rfl,Zap _ _⟩
 subst h2;by_cases h3:a3=b3
 case neg=>
  have hd:(a3 != b3)=true:=by simpa using h3
  have hne:decide ((⟨a0,a1,a2,a3,a4,ns⟩:RtD)=⟨a0,a1,a2,b3,b4,ms⟩)=false:=YAZ (fun h=>by cases h;exact h3 rfl);rw [hne];clear hne
  go_enter Tryz.func121,Tryz.ntmps121
  go_wp2;go_ret;exact⟨rfl,Zap _ _⟩
 subst h3;by_cases h4:a4=b4
 case neg=>
  have hd:(a4 != b4)=true:=by simpa using h4
  have hne:decide ((⟨a0,a1,a2,a3,a4,ns⟩:RtD)=⟨a0,a1,a2,a3,b4,ms⟩)=false:=YAZ (fun h=>by cases h;exact h4 rfl);rw [hne];clear hne
  go_enter Tryz.func121,Tryz.ntmps121
  go_wp2;go_ret;exact⟨rfl,Zap _ _⟩
 subst h4;obtain⟨R,hR⟩:∃ R,R=decide (ns=ms):=⟨_,rfl⟩;have hRR:decide ((⟨a0,a1,a2,a3,a4,ns⟩:RtD)=⟨a0,a1,a2,a3,a4,ms⟩)=R:=by rw [hR];simp
 rw [hRR];have HE:=fun W h1 h2=>ZrV u1 u2 ns ms W h1 h2 hl;rw [<-hR] at HE;have HEQ:=hide HE;clear HE hR hRR;cases R
 ·go_enter Tryz.func121,Tryz.ntmps121
  go_wp2_with fail
  refine (HEQ _ (K1.out.then (Zap _ _)).ints (K2.out.then (Zap _ _)).ints).mono ?_;rintro e w1 ⟨rfl,bb1⟩;go_wp2;go_ret;exact⟨rfl,(Zap _ _).trans (bb1.mono (by simp;omega))⟩
 ·go_enter Tryz.func121,Tryz.ntmps121
  go_wp2_with fail
  refine (HEQ _ (K1.out.then (Zap _ _)).ints (K2.out.then (Zap _ _)).ints).mono ?_;rintro e w1 ⟨rfl,bb1⟩;go_wp2;go_ret;exact⟨rfl,(Zap _ _).trans (bb1.mono (by simp;omega))⟩
def lk0:Lk:=⟨0,0,0,0⟩
theorem Tryz.infoLk :(Tryz.prog.info? 173).map (fun i=>(i.zero,i.size,i.bytes))=some (some (lkV lk0),4,32):=by kernel_rfl
theorem ZlY (v:Value)(ls:List Lk)(w:World)(hls:ls.length<=1048576)(hv:ZaV w v ls w.heap.size):
  Calls Tryz.prog 109 #[v] w fun e w'=>∃ x,e=.returned x/\w'.ownsRow w.heap.size 173 4 x ls.length (flat lkE ls)/\T_ w w':=by
 obtain⟨a,cap,rfl⟩:=hv.shape;have HV:=hide hv;clear hv;obtain⟨i0,hi,hz0,hz1,hz2⟩:=info_parts Tryz.infoLk;have HI:=hide hi;have HZ:=hide hz0;clear hi hz0
 go_enter Tryz.func109,Tryz.ntmps109
 go_wp2_with (first
  | (refine Zcg Zhf (by omega) _ rfl _ _ 24 rfl w.heap.size 173 i0 (lkV lk0) lk0 rfl Tryz.underlying24 HI HZ hz1 ls.length rfl rfl (by rw [hz2];omega) (by unfold maxLen;omega) (YA _) ?_))
 intro w1 hown hg;have b1:T_ w w1:=(YAC _ _).grown hg (YA _) (fun k hk=>by simp at hk);have hg1:w.heap.size<w1.heap.size:=by
  rcases hown.2 with ⟨h0,_⟩ | ⟨g,cp,cur,hv,_,hh,_⟩
  ·cases h0
  ·cases hv;exact Zab hh
 have OW:=hide hown;clear hown hg;go_wp2
 go_loopw [4] (fun i wr=>∃ k:Nat,k<=ls.length/\i=M k/\wr.ownsRow w.heap.size 173 4 (.slice (some (U w.heap.size 0)) ls.length ls.length) ls.length (flat lkE (part ls lk0 k))/\T_ w wr) (fun i _=>ls.length-(intOf i).toNat)
 case atStart=>exact ⟨0,by omega,rfl,(by simpa [part] using OW.out),b1⟩
 case round=>
  obtain⟨k,hk,rfl,hown,hnx⟩:=hrel;by_cases hlt:k<ls.length
  ·obtain ⟨l,hl⟩:∃ l,ls[k]? = some l:=⟨ls[k],YAA hlt⟩;obtain⟨b,off,cap',hve,hbb,c0,c1,c2,c3⟩:=HV.out.cells k l hl;cases hve;replace c0:=(hnx.cell hbb).trans c0;replace c1:=(hnx.cell hbb).trans c1;replace c2:=(hnx.cell hbb).trans c2;replace c3:=(hnx.cell hbb).trans c3;have HL:=hide hl;have OW2:=hide hown;clear hl hown;have hki:(0:Int)<=(k:Int):=by omega
   have hkj:(k:Int)<(ls.length:Int):=by omega
   have hto:=Zn5 l;unfold lkV at hto;have HTO:=hide hto;clear hto
   go_wp2_with fail
   refine (HTO _).mono ?_;rintro e w2 ⟨rfl,b2⟩;have hown2:=Zad OW2 b2 (YA _);have hex:∀ r,r<4->∃ u,w2.cell? (U w.heap.size (k*4+r))=some u:=fun r hr=>by
    have hj:k*4+r<ls.length*4:=by omega
    rw [hown2.cellAt _ hj];have hln:k*4+r<(flat lkE (part ls lk0 k)).length:=by rw [hown2.1];exact hj
    exact⟨_,YAA hln⟩
   obtain⟨u0,d0⟩:=hex 0 (by omega);obtain⟨u1,d1⟩:=hex 1 (by omega);obtain⟨u2,d2⟩:=hex 2 (by omega);obtain⟨u3,d3⟩:=hex 3 (by omega);rw [Nat.add_zero] at d0;have f0:=hown2.frozenAt (k*4);have f1:=hown2.frozenAt (k*4+1);have f2:=hown2.frozenAt (k*4+2);have f3:=hown2.frozenAt (k*4+3);have OW3:=hide hown2;clear hown2 hex;go_wp2;refine⟨⟨k+1,by omega,by go_num,?_,((((hnx.trans (b2.mono hnx.size)).setCell (YA _) _).setCell (YA _) _).setCell (YA _) _).setCell (YA _) _⟩,by simp [intOf];omega⟩;have h4:=((((OW3.out.stored (k*4) (M l.a)).1.stored (k*4+1) (M l.b)).1.stored (k*4+2) (M l.c)).1.stored (k*4+3) (M l.r)).1;have e4:((((flat lkE (part ls lk0 k)).set (k*4) (M l.a)).set (k*4+1) (M l.b)).set (k*4+2) (M l.c)).set (k*4+3) (M l.r)=flat lkE (part ls lk0 (k+1)):=by
    rw [<-Zhs ls lk0 l k HL.out, <-Zc1 Zhf _ _ _ (by rw [Zjs _ _ _ hk];exact hlt)];rfl
   rw [e4] at h4;exact h4
  ·have hkn:k=ls.length:=by omega
   have KN:=hide hkn;have OW2:=hide hown;clear hkn hown;go_wp2;go_ret;refine⟨_,rfl,?_,hnx⟩;have h:=OW2.out;rw [KN.out,Zjr] at h;exact h
def th0:Th:=⟨0,0,0,false⟩
theorem Tryz.infoTh :(Tryz.prog.info? 119).map (fun i=>(i.zero,i.size,i.bytes))=some (some (thV th0),4,32):=by kernel_rfl
theorem ZkO (v:Value)(ls:List Th)(w:World)(hls:ls.length<=1048576)(hv:ZaU w v ls w.heap.size):
  Calls Tryz.prog 110 #[v] w fun e w'=>∃ x,e=.returned x/\w'.ownsRow w.heap.size 119 4 x ls.length (flat thE ls)/\T_ w w':=by
 obtain⟨a,cap,rfl⟩:=hv.shape;have HV:=hide hv;clear hv;obtain⟨i0,hi,hz0,hz1,hz2⟩:=info_parts Tryz.infoTh;have HI:=hide hi;have HZ:=hide hz0;clear hi hz0
 go_enter Tryz.func110,Tryz.ntmps110
 go_wp2_with (first
  | (refine Zcg ZhL (by omega) _ rfl _ _ 25 rfl w.heap.size 119 i0 (thV th0) th0 rfl Tryz.underlying25 HI HZ hz1 ls.length rfl rfl (by rw [hz2];omega) (by unfold maxLen;omega) (YA _) ?_))
 intro w1 hown hg;have b1:T_ w w1:=(YAC _ _).grown hg (YA _) (fun k hk=>by simp at hk);have hg1:w.heap.size<w1.heap.size:=by
  rcases hown.2 with ⟨h0,_⟩ | ⟨g,cp,cur,hv,_,hh,_⟩
  ·cases h0
  ·cases hv;exact Zab hh
 have OW:=hide hown;clear hown hg;go_wp2
 go_loopw [4] (fun i wr=>∃ k:Nat,k<=ls.length/\i=M k/\wr.ownsRow w.heap.size 119 4 (.slice (some (U w.heap.size 0)) ls.length ls.length) ls.length (flat thE (part ls th0 k))/\T_ w wr) (fun i _=>ls.length-(intOf i).toNat)
 case atStart=>exact ⟨0,by omega,rfl,(by simpa [part] using OW.out),b1⟩
 case round=>
  obtain⟨k,hk,rfl,hown,hnx⟩:=hrel;by_cases hlt:k<ls.length
  ·obtain ⟨l,hl⟩:∃ l,ls[k]? = some l:=⟨ls[k],YAA hlt⟩;obtain⟨b,off,cap',hve,hbb,c0,c1,c2,c3⟩:=HV.out.cells k l hl;cases hve;replace c0:=(hnx.cell hbb).trans c0;replace c1:=(hnx.cell hbb).trans c1;replace c2:=(hnx.cell hbb).trans c2;replace c3:=(hnx.cell hbb).trans c3;have HL:=hide hl;have OW2:=hide hown;clear hl hown;have hki:(0:Int)<=(k:Int):=by omega
   have hkj:(k:Int)<(ls.length:Int):=by omega
   have hto:=ZlZ l;unfold thV at hto;have HTO:=hide hto;clear hto
   go_wp2_with fail
   refine (HTO _).mono ?_;rintro e w2 ⟨rfl,b2⟩;have hown2:=Zad OW2 b2 (YA _);have hex:∀ r,r<4->∃ u,w2.cell? (U w.heap.size (k*4+r))=some u:=fun r hr=>by
    have hj:k*4+r<ls.length*4:=by omega
    rw [hown2.cellAt _ hj];have hln:k*4+r<(flat thE (part ls th0 k)).length:=by rw [hown2.1];exact hj
    exact⟨_,YAA hln⟩
   obtain⟨u0,d0⟩:=hex 0 (by omega);obtain⟨u1,d1⟩:=hex 1 (by omega);obtain⟨u2,d2⟩:=hex 2 (by omega);obtain⟨u3,d3⟩:=hex 3 (by omega);rw [Nat.add_zero] at d0;have f0:=hown2.frozenAt (k*4);have f1:=hown2.frozenAt (k*4+1);have f2:=hown2.frozenAt (k*4+2);have f3:=hown2.frozenAt (k*4+3);have OW3:=hide hown2;clear hown2 hex;go_wp2;refine⟨⟨k+1,by omega,by go_num,?_,((((hnx.trans (b2.mono hnx.size)).setCell (YA _) _).setCell (YA _) _).setCell (YA _) _).setCell (YA _) _⟩,by simp [intOf];omega⟩;have h4:=((((OW3.out.stored (k*4) (M l.o)).1.stored (k*4+1) (M l.k)).1.stored (k*4+2) (M l.c)).1.stored (k*4+3) (.bool l.f)).1;have e4:((((flat thE (part ls th0 k)).set (k*4) (M l.o)).set (k*4+1) (M l.k)).set (k*4+2) (M l.c)).set (k*4+3) (.bool l.f)=flat thE (part ls th0 (k+1)):=by
    rw [<-Zhs ls th0 l k HL.out, <-Zc1 ZhL _ _ _ (by rw [Zjs _ _ _ hk];exact hlt)];rfl
   rw [e4] at h4;exact h4
  ·have hkn:k=ls.length:=by omega
   have KN:=hide hkn;have OW2:=hide hown;clear hkn hown;go_wp2;go_ret;refine⟨_,rfl,?_,hnx⟩;have h:=OW2.out;rw [KN.out,Zjr] at h;exact h
theorem Zk8 (v1 v2:Value)(xs ys:List Lk)(w:World)(h1:ZaV w v1 xs w.heap.size)(h2:ZaV w v2 ys w.heap.size)(hn:xs.length<=1048576):
  Calls Tryz.prog 113 #[v1,v2] w fun e w'=>e=.returned (.bool (decide (xs=ys)))/\T_ w w':=by
 obtain⟨a1,c1,rfl⟩:=h1.shape;obtain⟨a2,c2,rfl⟩:=h2.shape;by_cases hl:xs.length=ys.length
 ·have K1:=hide h1;have K2:=hide h2;have HLN:=hide hl;rw [<-hl];clear h1 h2 hl
  go_enter Tryz.func113,Tryz.ntmps113
  go_wp2
  go_loopw [5] (fun i wr=>∃ k:Nat,k<=xs.length/\i=M k/\(∀ j,j<k->xs[j]? = ys[j]?)/\T_ w wr) (fun i _=>xs.length-(intOf i).toNat)
  case atStart=>exact ⟨0,by omega,rfl,by omega,YAC _ _⟩
  case round=>
   obtain⟨k,hk,rfl,hall,hnx⟩:=hrel;have HALL:=hide hall;clear hall;by_cases hlt:k<xs.length
   ·obtain ⟨x,hx⟩:∃ l,xs[k]? = some l:=⟨xs[k],YAA hlt⟩;obtain⟨y,hy⟩:∃ l,ys[k]? = some l:=⟨ys[k],YAA (by have:=HLN.out;omega)⟩;obtain⟨b1,o1,cp1,hv1,hb1,c0,c1',c2',c3⟩:=K1.out.cells k x hx;obtain⟨b2,o2,cp2,hv2,hb2,d0,d1,d2,d3⟩:=K2.out.cells k y hy;cases hv1;cases hv2;replace c0:=(hnx.cell hb1).trans c0;rw [<-hnx.cell (p:=(U b1 (o1+k*4+1))) hb1] at c1';rw [<-hnx.cell (p:=(U b1 (o1+k*4+2))) hb1] at c2';replace c3:=(hnx.cell hb1).trans c3;replace d0:=(hnx.cell hb2).trans d0;replace d1:=(hnx.cell hb2).trans d1;replace d2:=(hnx.cell hb2).trans d2;replace d3:=(hnx.cell hb2).trans d3;have hzr:=hnx.size;have hb1':b1<wr.heap.size:=by omega
    have hb2':b2<wr.heap.size:=by omega
    have hki:(0:Int)<=(k:Int):=by omega
    have hkj:(k:Int)<(xs.length:Int):=by omega
    have hq:=Zm7 x y;unfold lkV at hq;obtain⟨q,hqq⟩:∃ q,q=decide (x=y):=⟨_,rfl⟩;rw [<-hqq] at hq;have HQ:=hide hq;have HQQ:=hide hqq;have HX:=hide hx;have HY:=hide hy;clear hq hqq hx hy;cases q
    ·go_wp2
     go_region_held3 (fun W=>W.cell? (U b1 (o1+k*4))=some (M x.a)/\W.cell? (U b1 (o1+k*4+1))=some (M x.b)/\W.cell? (U b1 (o1+k*4+2))=some (M x.c)/\W.cell? (U b1 (o1+k*4+3))=some (M x.r)/\W.cell? (U b2 (o2+k*4))=some (M y.a)/\W.cell? (U b2 (o2+k*4+1))=some (M y.b)/\W.cell? (U b2 (o2+k*4+2))=some (M y.c)/\W.cell? (U b2 (o2+k*4+3))=some (M y.r)) (first | go_keep | (refine ⟨?_,?_,?_,?_,?_,?_,?_,?_⟩ <;> (rw [hbc.cell (by assumption)];assumption))) (first | (go_at_call 179;refine (HQ _).mono ?_;rintro e w1 ⟨rfl,hbc⟩))
     go_wp2;go_ret;exact⟨ZbC (Zr8 HX.out HY (of_decide_eq_false HQQ.out.symm)),hnx.trans ((YAC _ _).drew.trans (hbc.mono hzr))⟩
    ·go_wp2
     go_region_held3 (fun W=>W.cell? (U b1 (o1+k*4))=some (M x.a)/\W.cell? (U b1 (o1+k*4+1))=some (M x.b)/\W.cell? (U b1 (o1+k*4+2))=some (M x.c)/\W.cell? (U b1 (o1+k*4+3))=some (M x.r)/\W.cell? (U b2 (o2+k*4))=some (M y.a)/\W.cell? (U b2 (o2+k*4+1))=some (M y.b)/\W.cell? (U b2 (o2+k*4+2))=some (M y.c)/\W.cell? (U b2 (o2+k*4+3))=some (M y.r)) (first | go_keep | (refine ⟨?_,?_,?_,?_,?_,?_,?_,?_⟩ <;> (rw [hbc.cell (by assumption)];assumption))) (first | (go_at_call 179;refine (HQ _).mono ?_;rintro e w1 ⟨rfl,hbc⟩))
     go_wp2;go_roundw
     case rel=>exact ⟨k+1,by omega,by go_num,(fun j hj=>by
      by_cases e:j=k
      ·subst e;rw [HX.out,HY.out,of_decide_eq_true HQQ.out.symm]
      ·exact HALL j (by omega)),hnx.trans ((YAC _ _).drew.trans (hbc.mono hzr))⟩
     case measure=>exact MS_
   ·have hkn:k=xs.length:=by omega
    have KN:=hide hkn;clear hkn;go_wp2;go_ret;exact⟨Zck (Zox HLN (by rw [<-KN.out];exact HALL)),hnx⟩
 ·clear h1 h2;have hd:((xs.length:Int) != (ys.length:Int))=true:=by simp;omega
  go_enter Tryz.func113,Tryz.ntmps113
  go_wp2;go_ret;exact⟨ZbC (fun h=>hl (by rw [h])),YAC _ _⟩
theorem Zj8 (v1 v2:Value)(xs ys:List Th)(w:World)(h1:ZaU w v1 xs w.heap.size)(h2:ZaU w v2 ys w.heap.size)(hn:xs.length<=1048576):
  Calls Tryz.prog 114 #[v1,v2] w fun e w'=>e=.returned (.bool (decide (xs=ys)))/\T_ w w':=by
 obtain⟨a1,c1,rfl⟩:=h1.shape;obtain⟨a2,c2,rfl⟩:=h2.shape;by_cases hl:xs.length=ys.length
 ·have K1:=hide h1;have K2:=hide h2;have HLN:=hide hl;rw [<-hl];clear h1 h2 hl
  go_enter Tryz.func114,Tryz.ntmps114
  go_wp2
  go_loopw [5] (fun i wr=>∃ k:Nat,k<=xs.length/\i=M k/\(∀ j,j<k->xs[j]? = ys[j]?)/\T_ w wr) (fun i _=>xs.length-(intOf i).toNat)
  case atStart=>exact ⟨0,by omega,rfl,by omega,YAC _ _⟩
  case round=>
   obtain⟨k,hk,rfl,hall,hnx⟩:=hrel;have HALL:=hide hall;clear hall;by_cases hlt:k<xs.length
   ·obtain ⟨x,hx⟩:∃ l,xs[k]? = some l:=⟨xs[k],YAA hlt⟩;obtain⟨y,hy⟩:∃ l,ys[k]? = some l:=⟨ys[k],YAA (by have:=HLN.out;omega)⟩;obtain⟨b1,o1,cp1,hv1,hb1,c0,c1',c2',c3⟩:=K1.out.cells k x hx;obtain⟨b2,o2,cp2,hv2,hb2,d0,d1,d2,d3⟩:=K2.out.cells k y hy;cases hv1;cases hv2;replace c0:=(hnx.cell hb1).trans c0;rw [<-hnx.cell (p:=(U b1 (o1+k*4+1))) hb1] at c1';rw [<-hnx.cell (p:=(U b1 (o1+k*4+2))) hb1] at c2';replace c3:=(hnx.cell hb1).trans c3;replace d0:=(hnx.cell hb2).trans d0;replace d1:=(hnx.cell hb2).trans d1;replace d2:=(hnx.cell hb2).trans d2;replace d3:=(hnx.cell hb2).trans d3;have hzr:=hnx.size;have hb1':b1<wr.heap.size:=by omega
    have hb2':b2<wr.heap.size:=by omega
    have hki:(0:Int)<=(k:Int):=by omega
    have hkj:(k:Int)<(xs.length:Int):=by omega
    have hq:=Zla x y;unfold thV at hq;obtain⟨q,hqq⟩:∃ q,q=decide (x=y):=⟨_,rfl⟩;rw [<-hqq] at hq;have HQ:=hide hq;have HQQ:=hide hqq;have HX:=hide hx;have HY:=hide hy;clear hq hqq hx hy;cases q
    ·go_wp2
     go_region_held3 (fun W=>W.cell? (U b1 (o1+k*4))=some (M x.o)/\W.cell? (U b1 (o1+k*4+1))=some (M x.k)/\W.cell? (U b1 (o1+k*4+2))=some (M x.c)/\W.cell? (U b1 (o1+k*4+3))=some (.bool x.f)/\W.cell? (U b2 (o2+k*4))=some (M y.o)/\W.cell? (U b2 (o2+k*4+1))=some (M y.k)/\W.cell? (U b2 (o2+k*4+2))=some (M y.c)/\W.cell? (U b2 (o2+k*4+3))=some (.bool y.f)) (first | go_keep | (refine ⟨?_,?_,?_,?_,?_,?_,?_,?_⟩ <;> (rw [hbc.cell (by assumption)];assumption))) (first | (go_at_call 180;refine (HQ _).mono ?_;rintro e w1 ⟨rfl,hbc⟩))
     go_wp2;go_ret;exact⟨ZbC (Zr8 HX.out HY (of_decide_eq_false HQQ.out.symm)),hnx.trans ((YAC _ _).drew.trans (hbc.mono hzr))⟩
    ·go_wp2
     go_region_held3 (fun W=>W.cell? (U b1 (o1+k*4))=some (M x.o)/\W.cell? (U b1 (o1+k*4+1))=some (M x.k)/\W.cell? (U b1 (o1+k*4+2))=some (M x.c)/\W.cell? (U b1 (o1+k*4+3))=some (.bool x.f)/\W.cell? (U b2 (o2+k*4))=some (M y.o)/\W.cell? (U b2 (o2+k*4+1))=some (M y.k)/\W.cell? (U b2 (o2+k*4+2))=some (M y.c)/\W.cell? (U b2 (o2+k*4+3))=some (.bool y.f)) (first | go_keep | (refine ⟨?_,?_,?_,?_,?_,?_,?_,?_⟩ <;> (rw [hbc.cell (by assumption)];assumption))) (first | (go_at_call 180;refine (HQ _).mono ?_;rintro e w1 ⟨rfl,hbc⟩))
     go_wp2;go_roundw
     case rel=>exact ⟨k+1,by omega,by go_num,(fun j hj=>by
      by_cases e:j=k
      ·subst e;rw [HX.out,HY.out,of_decide_eq_true HQQ.out.symm]
      ·exact HALL j (by omega)),hnx.trans ((YAC _ _).drew.trans (hbc.mono hzr))⟩
     case measure=>exact MS_
   ·have hkn:k=xs.length:=by omega
    have KN:=hide hkn;clear hkn;go_wp2;go_ret;exact⟨Zck (Zox HLN (by rw [<-KN.out];exact HALL)),hnx⟩
 ·clear h1 h2;have hd:((xs.length:Int) != (ys.length:Int))=true:=by simp;omega
  go_enter Tryz.func114,Tryz.ntmps114
  go_wp2;go_ret;exact⟨ZbC (fun h=>hl (by rw [h])),YAC _ _⟩
def Zeq (f t r:Int)(p:Lk × Bool):Bool:=p.2&&ZbJ f t r p.1
def Zdo (ls:List Lk)(bs:List Bool)(f t r:Int):Int:=(((ls.zip bs).find? (Zeq f t r)).map (·.1.c)).getD 0
theorem ZrK {b:Bool}(h:ls[k]? = some l)(hb:bs[k]? = some b):(ls.zip bs)[k]? = some (l,b):=by
 rw [List.getElem?_zip_eq_some];exact⟨h,hb⟩
theorem ZqV {b:Bool}(h:∀ j,j<k->∀ x,(ls.zip bs)[j]? = some x->Zeq f t r x=false)(hl:(ls.zip bs)[k]? = some (l,b))(hp:Zeq f t r (l,b)=true):Zdo ls bs f t r=l.c:=by
 unfold Zdo;rw [Zf7 _ _ k _ h hl hp];rfl
theorem Zpk (h:∀ j,j<k->∀ x,(ls.zip bs)[j]? = some x->Zeq f t r x=false)(hk:k=ls.length):Zdo ls bs f t r=0:=by
 unfold Zdo;rw [Zif _ _ (fun j hj=>h j (by rw [List.length_zip] at hj;omega))];rfl
def NoHit (ls:List Lk)(bs:List Bool)(f t r:Int)(k:Nat):Prop:=∀ j,j<k->∀ x,(ls.zip bs)[j]? = some x->Zeq f t r x=false
theorem ZpJ (n:Value)(v tv y:Value)(ls:List Lk)(bs:List Bool)(f t r:Int)(w:World)(hls:ls.length<=1048576)(hbs:bs.length=ls.length)(hv:ZaV w v ls w.heap.size)(hy:Za6 w y bs w.heap.size):
  Calls Tryz.prog 84 #[.agg #[n,v,tv],y,M f,M t,M r] w fun e w'=>e=.returned (M (Zdo ls bs f t r))/\T_ w w':=by
 obtain⟨a,cap,rfl⟩:∃ a cap,v=.slice a ls.length cap:=by obtain ⟨a,cap,h,_⟩:=hv;exact⟨a,cap,h⟩
 obtain⟨a2,cap2,rfl⟩:=hy.shape;have HV:=hide hv;have HY:=hide hy;have HBS:=hide hbs;clear hv hy hbs
 go_enter Tryz.func84,Tryz.ntmps84
 go_wp2
 go_loopw [11] (fun i wr=>∃ k:Nat,k<=ls.length/\i=M k/\NoHit ls bs f t r k/\T_ w wr/\wr.heap[w.heap.size]? = some (.cells #[n,.slice a ls.length cap,tv] 27)) (fun i _=>ls.length-(intOf i).toNat)
 case atStart=>exact ⟨0,by omega,rfl,fun j hj=>absurd hj (Nat.not_lt_zero _),(YAC _ _).alloc (YA _) _,YAE w _⟩
 case round=>
  obtain⟨k,hk,rfl,hno,hb,hx⟩:=hrel;have hx1:wr.cell? (U w.heap.size 1)=some (.slice a ls.length cap):=by rw [Zaa hx];rfl
  have HX:=hide hx;have HNO:=hide hno;clear hx hno;by_cases hlt:k<ls.length
  ·obtain ⟨l,hl⟩:∃ l,ls[k]? = some l:=⟨ls[k],YAA hlt⟩;have hltb:k<bs.length:=by have:=HBS.out;omega
   obtain⟨b1,hb1⟩:∃ b,bs[k]? = some b:=⟨bs[k],YAA hltb⟩;obtain⟨b,off,cap',hve,hbb,c0,c1,c2,c3⟩:=HV.out.cells k l hl;cases hve;obtain⟨g,off2,cap2',hve2,hgg,d0⟩:=HY.out.cell k b1 hb1;cases hve2;replace c0:=(hb.cell hbb).trans c0;replace c1:=(hb.cell hbb).trans c1;replace c2:=(hb.cell hbb).trans c2;replace c3:=(hb.cell hbb).trans c3;replace d0:=(hb.cell hgg).trans d0;have HL:=hide (ZrK hl hb1);have hlb:(k:Int)<(bs.length:Int):=by omega
   have hgw:g<wr.heap.size:=by have:=hb.size;omega
   clear hl hb1 hgg;obtain⟨la,lb,lc,lr⟩:=l;cases b1
   all_goals go_wp2
   all_goals first
    | (go_ret
       refine⟨Zd4 (ZqV HNO HL ?_).symm,hb.alloc hb.size _⟩;clear HV HX HL HNO hb hx1 c0 c1 c2 c3 d0 HY;simp only [Zeq,ZbJ];grind)
    | (refine ⟨⟨k+1,by omega,by go_num,ZlI HNO HL ?_,hb.alloc hb.size _,?_⟩,by simp [intOf];omega⟩
       ·clear HV HX HL HNO hb hx1 c0 c1 c2 c3 d0 HY;simp only [Zeq,ZbJ];grind
       ·rw [YAL _ _ _ (Zab HX.out)];exact HX)
    | (subst_vars
       refine⟨⟨k+1,by omega,by go_num,ZlI HNO HL ?_,hb.alloc hb.size _,?_⟩,by simp [intOf];omega⟩
       ·clear HV HX HL HNO hb hx1 c0 c1 c2 c3 d0 HY;simp only [Zeq,ZbJ];grind
       ·rw [YAL _ _ _ (Zab HX.out)];exact HX)
  ·have hk':k=ls.length:=by omega
   have HK:=hide hk';clear hk';go_wp2;go_ret;exact⟨Zd4 (Zpk HNO HK).symm,hb⟩
def Zeo (ls:List Lk)(v r:Int):List Int:=([1,2,3,4,5,6]:List Int).filter fun u=>decide (0<ZcR ls v u r)
def Zay (ls:List Lk)(v:Int):List Int:=([0,1,2]:List Int).filter fun r=>decide (0<(Zeo ls v r).length)
def ZeV (ls:List Lk)(v:Int):Bool:=decide (1<(Zay ls v).length)&&((Zay ls v).head? == some 0)
def ZbE (p:Int->Bool)(s:Int):Nat->List Int
 | 0=>[]
 | k+1=>ZbE p s k++(if p (s+(k:Int)) then [s+(k:Int)] else [])
theorem ZeL (p:Int->Bool)(s:Int):∀ k,(ZbE p s k).length<=k
 | 0=>by simp [ZbE]
 | k+1=>by
  have:=ZeL p s k;simp only [ZbE]
  split <;> simp <;> omega
theorem ZlH (ls:List Lk)(v r:Int):Zeo ls v r=ZbE (fun u=>decide (0<ZcR ls v u r)) 1 6:=by
 simp [Zeo,ZbE,List.filter_cons]
 repeat' split
 all_goals simp
theorem ZpI (n:Value)(v tv:Value)(ls:List Lk)(f r:Int)(w:World)(hls:ls.length<=1048576)(hv:ZaV w v ls w.heap.size):
  Calls Tryz.prog 76 #[.agg #[n,v,tv],M f,M r] w fun e w'=>∃ x,e=.returned x/\w'.ownsRow w.heap.size 3 1 x (Zeo ls f r).length (Za5 (Zeo ls f r))/\T_ w w':=by
 have HV:=hide hv;clear hv;rw [ZlH]
 go_enter Tryz.func76,Tryz.ntmps76
 go_wp2
 go_loopw [7,8] (fun x i wr=>∃ k:Nat,k<=6/\i=M (1+(k:Int))/\T_ w wr/\wr.heap[w.heap.size]? = some (.cells #[n,v,tv] 27)/\wr.ownsRow (w.heap.size+1) 3 1 x (ZbE (fun u=>decide (0<ZcR ls f u r)) 1 k).length (Za5 (ZbE (fun u=>decide (0<ZcR ls f u r)) 1 k))) (fun _ i _=>8-(intOf i).toNat)
 case atStart=>
  refine⟨0,by omega,rfl,Zap _ _,?_,?_⟩
  ·rw [YAL _ _ _ (show w.heap.size<(w.alloc (.cells #[n,v,tv] 27)).heap.size by simp),YAE]
  ·have h0:=YAe (base:=w.heap.size+1) (w.alloc (.cells #[n,v,tv] 27)) (#[]:Array Value) 0 (by simp) (by decide) (e:=3) (size:=1) rfl;simpa [ZbE,Za5] using h0
 case round=>
  obtain⟨k,hk,rfl,hb,hx,hown⟩:=hrel;have c0:wr.cell? (U w.heap.size 0)=some n:=by rw [Zaa hx];rfl
  have c1:wr.cell? (U w.heap.size 1)=some v:=by rw [Zaa hx];rfl
  have c2:wr.cell? (U w.heap.size 2)=some tv:=by rw [Zaa hx];rfl
  have hxl:=Zab hx;have HX:=hide hx;have OW:=hide hown;clear hx hown;by_cases hlt:k<6
  ·go_wp2_with fail
   refine (ZpE n v tv ls f (1+(k:Int)) r wr hls (HV.out.then hb)).mono ?_;rintro e w1 ⟨rfl,b1⟩;have hown1:=Zad OW b1 (YA _);have hx1:w1.heap[w.heap.size]? = some (.cells #[n,v,tv] 27):=by rw [b1.block _ hxl];exact HX
   have hb1:T_ w w1:=hb.trans (b1.mono hb.size);have hz1:=b1.size;have hpl:=ZeL (fun u=>decide (0<ZcR ls f u r)) 1 k;have HX1:=hide hx1;obtain⟨l2,hl20⟩:∃ l2,l2=ZbE (fun u=>decide (0<ZcR ls f u r)) 1 (k+1):=⟨_,rfl⟩;have HL20:=hide hl20;have hps:Hid (l2=ZbE (fun u=>decide (0<ZcR ls f u r)) 1 k++(if decide (0<ZcR ls f (1+(k:Int)) r) then [1+(k:Int)] else [])):=hl20;clear hl20;clear b1 hx1 c0 c1 c2 OW HX;generalize ZbE (fun u=>decide (0<ZcR ls f u r)) 1 k=l at hown1 hpl hps;generalize ZcR ls f (1+(k:Int)) r=c at hps |-;by_cases hc:0<c
   ·have hl2:l2=l++[1+(k:Int)]:=by rw [hps.out];simp [hc]
    have HL2:=hide hl2;clear hl2 hps
    go_wp2_with (first
     | (at_builtin;refine Zbt _ rfl _ _ 28 rfl (w.heap.size+1) 3 Tryz.underlying28 Tryz.info3 u7 l (1+(k:Int)) rfl (hown1.alloc _) (U w1.heap.size 0) 1 rfl ?_ (by omega) (by simp;omega) ?_))
    ·rw [add_zero',World.cell?_alloc_at _ _ _ _ rfl];rfl
    intro v' w4 l' hl' hown' hgrow;have hb4:T_ w w4:=(hb1.alloc (by omega) _).grown hgrow (by simp;omega) (fun k hk=>by have:=(hown1.lt k hk).1;omega);have hx4:w4.heap[w.heap.size]? = some (.cells #[n,v,tv] 27):=by
     rw [hgrow.block _ (by simp;omega) (fun h=>by have:=(hown1.lt _ h.symm).1;omega),YAL _ _ _ (by omega)];exact HX1
    have e:l'=l2:=by rw [hl'.out,HL2.out]
    subst e;have OW2:=hide hown';have HX4:=hide hx4;clear hgrow hown' hx4 hown1;go_wp2;go_roundw
    case rel=>exact ⟨k+1,by omega,by go_num,hb4,HX4,by rw [<-HL20.out];exact OW2⟩
    case measure=>exact MS_
   ·have hl2:l2=l:=by rw [hps.out];simp [hc]
    subst hl2;have OW2:=hide hown1;clear hown1 hps;go_wp2;go_roundw
    case rel=>exact ⟨k+1,by omega,by go_num,hb1,HX1,by rw [<-HL20.out];exact OW2⟩
    case measure=>exact MS_
  ·have hk':k=6:=by omega
   subst hk';go_wp2;go_ret;exact⟨_,rfl,ZfS OW (by omega),hb⟩
abbrev RP:=RecD × Value
def encP (p:RP):List Value:=[M p.1.area,M p.1.kind,M p.1.owner,M p.1.key,M p.1.seq,p.2,M p.1.cost,.bool p.1.far]
theorem Zax (p:RP):(encP p).length=8:=rfl
def Zbf:RecD:=⟨0,0,0,0,0,[],0,false⟩
def ZbG (W:World)(v:Value)(ps:List RP)(B:Nat):Prop:=ZaL encP 8 W v ps B/\∀ p∈ps,ZaG W p.2 p.1.near B
theorem ZbG.shape {ps:List RP}(h:ZbG W v ps B):∃ a cap,v=.slice a ps.length cap:=by
 obtain⟨⟨a,cap,h,_⟩,_⟩:=h;exact⟨a,cap,h⟩
theorem ZbG.later {ps:List RP}{C:Nat}(h:ZbG W v ps B)(hb:Below C W W')(hBC:B<=C):ZbG W' v ps B:=
 ⟨Zaw.later h.1 hb hBC,fun p hp=>Zaw.later (h.2 p hp) hb hBC⟩
theorem ZbG.more {ps:List RP}{C:Nat}(h:ZbG W v ps B)(hBC:B<=C):ZbG W v ps C:=
 ⟨Zaw.more h.1 hBC,fun p hp=>Zaw.more (h.2 p hp) hBC⟩
theorem ZbG.then {ps:List RP}(h:ZbG W v ps W.heap.size)(hb:T_ W W'):ZbG W' v ps W'.heap.size:=(h.later hb (YA _)).more hb.size
theorem ZbG.cells {ps:List RP}(h:ZbG W v ps B)(i:Nat)(p:RP)(hp:ps[i]? = some p):
  ∃ b off cap,v=.slice (some (U b off)) ps.length cap/\b<B/\W.cell? (U b (off+i*8))=some (M p.1.area)/\W.cell? (U b (off+i*8+1))=some (M p.1.kind)/\W.cell? (U b (off+i*8+2))=some (M p.1.owner)/\W.cell? (U b (off+i*8+3))=some (M p.1.key)/\W.cell? (U b (off+i*8+4))=some (M p.1.seq)/\W.cell? (U b (off+i*8+5))=some p.2/\W.cell? (U b (off+i*8+6))=some (M p.1.cost)/\W.cell? (U b (off+i*8+7))=some (.bool p.1.far)/\ZaG W p.2 p.1.near B:=by
 obtain⟨b,off,cap,hv,hb,hc⟩:=ZaL.cell h.1 Zax i p hp;exact⟨b,off,cap,hv,hb,hc 0 _ rfl,hc 1 _ rfl,hc 2 _ rfl,hc 3 _ rfl,hc 4 _ rfl,hc 5 _ rfl,hc 6 _ rfl,hc 7 _ rfl,h.2 p (YAH hp)⟩
def ZaH (W:World)(lo hi:Nat)(p:RP):Prop:=W.ownsRow lo 106 2 p.2 p.1.near.length (flat nrE p.1.near)/\∀ k,p.2.ownBlock=some k->k<hi
def ZeS (p q:RP):Prop:=∀ k,p.2.ownBlock=some k->q.2.ownBlock≠some k
structure RecsOwn (W:World) (lo hi:Nat) (v:Value) (ps:List RP):Prop where
 row:W.ownsRow lo 39 8 v ps.length (flat encP ps)
 top:∀ k,v.ownBlock=some k->k<hi
 nears:∀ p∈ps,ZaH W lo hi p
 apart:ps.Pairwise ZeS
theorem Zal (h:W.ownsRow base e size v n xs)(hk:∀ k,v.ownBlock=some k->W'.heap[k]? = W.heap[k]?):W'.ownsRow base e size v n xs:=by
 refine⟨h.1,?_⟩;rcases h.2 with h2 | ⟨g,cap,cur,hv,hg,hh,r⟩
 ·exact .inl h2
 ·exact .inr ⟨g,cap,cur,hv,hg,by rw [hk g (by rw [hv];rfl)];exact hh,r⟩
theorem ZaH.keep {p:RP}(h:ZaH W lo hi p)(hk:∀ k,lo<=k->k<hi->k<W.heap.size->W'.heap[k]? = W.heap[k]?):ZaH W' lo hi p:=
 ⟨Zal h.1 (fun k e=>hk k (h.1.lt k e).1 (h.2 k e) (h.1.lt k e).2),h.2⟩
theorem ZaH.wide {lo' hi':Nat}{p:RP}(h:ZaH W lo hi p)(hl:lo'<=lo)(hh:hi<=hi'):ZaH W lo' hi' p:=
 ⟨Zaf h.1 hl,fun k e=>YAB (h.2 k e) hh⟩
theorem ZaH.at {p:RP}(h:ZaH W lo hi p):ZaG W p.2 p.1.near hi:=by
 have h1:=Zan h.1;obtain⟨a,cap,hv,h2⟩:=h1;refine⟨a,cap,hv,?_⟩;rcases h2 with h0 | ⟨b,off,ha,hb1,hx⟩
 ·exact .inl h0
 ·exact .inr ⟨b,off,ha,h.2 b (by rw [hv,ha];rfl),hx⟩
theorem RecsOwn.keep {ps:List RP}(h:RecsOwn W lo hi v ps)(hk:∀ k,lo<=k->k<hi->k<W.heap.size->W'.heap[k]? = W.heap[k]?):RecsOwn W' lo hi v ps where
 row:=Zal h.row (fun k e=>hk k (h.row.lt k e).1 (h.top k e) (h.row.lt k e).2)
 top:=h.top
 nears:=fun p hp=>(h.nears p hp).keep hk
 apart:=h.apart
theorem RecsOwn.below {ps:List RP}(h:RecsOwn W lo hi v ps)(hb:Below B W W')(hB:hi<=B):RecsOwn W' lo hi v ps:=h.keep (fun k _ h2 _=>hb.block k (by omega))
theorem RecsOwn.wide {lo' hi':Nat}{ps:List RP}(h:RecsOwn W lo hi v ps)(hl:lo'<=lo)(hh:hi<=hi'):RecsOwn W lo' hi' v ps where
 row:=Zaf h.row hl
 top:=fun k e=>YAB (h.top k e) hh
 nears:=fun p hp=>(h.nears p hp).wide hl hh
 apart:=h.apart
theorem RecsOwn.at {ps:List RP}(h:RecsOwn W lo hi v ps):ZbG W v ps hi:=by
 refine⟨?_,fun p hp=>(h.nears p hp).at⟩;have h1:=Zan h.row;obtain⟨a,cap,hv,h2⟩:=h1;refine⟨a,cap,hv,?_⟩;rcases h2 with h0 | ⟨b,off,ha,hb1,hx⟩
 ·exact .inl h0
 ·exact .inr ⟨b,off,ha,h.top b (by rw [hv,ha];rfl),hx⟩
structure Frame (lo hi:Nat) (w w':World):Prop where
 os:w'.os=w.os
 tape:w'.tape=w.tape
 output:w'.output=w.output
 size:w.heap.size<=w'.heap.size
 block:∀ k,k<w.heap.size->(k<lo\/hi<=k)->w'.heap[k]? = w.heap[k]?
theorem Frame.refl (lo hi:Nat)(w:World):Frame lo hi w w:=⟨rfl,rfl,rfl,YA _,fun _ _ _=>rfl⟩
theorem Frame.trans {a b c:World}(h:Frame lo hi a b)(k:Frame lo hi b c):Frame lo hi a c:=
 ⟨k.os.trans h.os,k.tape.trans h.tape,k.output.trans h.output,YAG h.size k.size,fun i hi hr=>(k.block i (YAB hi h.size) hr).trans (h.block i hi hr)⟩
theorem Frame.grown {a b:World}{row:Option Nat}(g:a.grownBy b row)(hr:∀ k,row=some k->lo<=k/\k<hi):Frame lo hi a b:=
 ⟨g.os,g.tape,g.output,g.size,fun k hk hh=>g.block k hk (fun e=>by have:=hr k e.symm;omega)⟩
theorem Frame.set (w:World)(p j:Nat)(u:Value)(h1:lo<=p)(h2:p<hi):Frame lo hi w (w.setCell (U p j) u):=Frame.grown (Zak w p j u) (fun k e=>by simp at e;omega)
theorem Frame.below {w':World}(h:Frame lo hi w w')(hw:lo<=w.heap.size):Below lo w w':=(YAC _ _).trans ⟨h.os,h.tape,h.output,h.size,fun k hk=>h.block k (by omega) (.inl hk)⟩
theorem RecsOwn.frame {l2 h2:Nat}{ps:List RP}(h:RecsOwn W lo hi v ps)(hb:Frame l2 h2 W W')(hB:hi<=l2\/h2<=lo):RecsOwn W' lo hi v ps:=h.keep (fun k h1 h2 h3=>hb.block k h3 (by omega))
abbrev putP (W:World) (g o:Nat) (p:RP):World:=(((((((W.setCell (U g o) (M p.1.area)).setCell (U g (o+1)) (M p.1.kind)).setCell (U g (o+2)) (M p.1.owner)).setCell (U g (o+3)) (M p.1.key)).setCell (U g (o+4)) (M p.1.seq)).setCell (U g (o+5)) p.2).setCell (U g (o+6)) (M p.1.cost)).setCell (U g (o+7)) (.bool p.1.far)
theorem ZeM (W:World)(g o:Nat)(p:RP):W.grownBy (putP W g o p) (some g):=
 Zaj (Zaj (Zaj (Zaj (Zaj (Zaj (Zaj (Zak W g _ _) (Zak _ g _ _)) (Zak _ g _ _)) (Zak _ g _ _)) (Zak _ g _ _)) (Zak _ g _ _)) (Zak _ g _ _)) (Zak _ g _ _)
theorem Zpv {g cap j:Nat}{xs:List RP}{p:RP} (h:W.ownsRow base 39 8 (.slice (some (U g 0)) n cap) n (flat encP xs)) (hj:j<xs.length):
  (putP W g (j*8) p).ownsRow base 39 8 (.slice (some (U g 0)) n cap) n (flat encP (xs.set j p)):=by
 have e:(((((((((flat encP xs).set (j*8) (M p.1.area)).set (j*8+1) (M p.1.kind)).set (j*8+2) (M p.1.owner)).set (j*8+3) (M p.1.key)).set (j*8+4) (M p.1.seq)).set (j*8+5) p.2).set (j*8+6) (M p.1.cost)).set (j*8+7) (.bool p.1.far))=flat encP (xs.set j p):=Zc1 Zax xs j p hj;rw [<-e];exact ((((((((h.stored (j*8) _).1.stored (j*8+1) _).1.stored (j*8+2) _).1.stored (j*8+3) _).1.stored (j*8+4) _).1.stored (j*8+5) _).1.stored (j*8+6) _).1.stored (j*8+7) _).1
theorem Zog {ps:List RP}{p:RP}(h:ps.Pairwise ZeS)(hn:∀ q∈ps,ZaH W lo hi q)(hp:∀ k,p.2.ownBlock=some k->hi<=k):(ps++[p]).Pairwise ZeS:=by
 rw [YAQ];refine⟨h,by simp,?_⟩;intro a ha b hb;have:b=p:=by simpa using hb
 subst this;intro k hk he;have h1:=(hn a ha).2 k hk;have h2:=hp k he;omega
def tot (ps:List RP):Nat:=(ps.map (fun p=>1+p.1.near.length)).sum
theorem ZcO (p:RP)(ps:List RP):tot (p::ps)=1+p.1.near.length+tot ps:=by simp [tot]
theorem ZdR (a b:List RP):tot (a++b)=tot a+tot b:=by simp [tot]
theorem Zby (ps:List RP):ps.length<=tot ps:=by
 induction ps with
 | nil=>simp [tot]
 | cons p ps ih=>rw [ZcO,YAm];omega
theorem ZhQ {ps:List RP}{p:RP}(h:p∈ps):p.1.near.length<=tot ps:=by
 induction ps with
 | nil=>simp at h
 | cons q ps ih=>
  rw [ZcO];rcases YAg.1 h with rfl | h1
  ·omega
  ·have:=ih h1;omega
theorem Zsr {ps qs:List RP}(h:ps.map (·.1)=qs.map (·.1)):tot ps=tot qs:=by
 have e:∀ l:List RP,tot l=((l.map (·.1)).map (fun x=>1+x.near.length)).sum:=fun l=>by simp [tot,List.map_map,Function.comp_def]
 rw [e,e,h]
theorem map_take {ps:List RP}{p:RP}(h:ps[k]? = some p):(ps.take (k+1)).map (·.1)=(ps.take k).map (·.1)++[p.1]:=by
 obtain⟨hk,e⟩:=YAD.1 h;rw [YAI hk,YAh,e];rfl
def keyC (x:RecD):Array Value:=#[M x.area,M x.kind,M x.owner,M x.key]
theorem Zo1 (v1:Value)(x:RecD)(w:World):Calls Tryz.prog 186 #[.agg (recC x v1)] w fun e w'=>e=.returned (.agg (keyC x))/\T_ w w':=by
 obtain⟨a0,a1,a2,a3,a4,ns,a6,a7⟩:=x;unfold recC keyC;simp only []
 go_enter Tryz.func186,Tryz.ntmps186
 go_wp2
 go_returns
 exact⟨rfl,Zap _ _⟩
theorem Zo2 (a0 a1 a2 a3 a4:Int)(v:Value)(a6:Int)(a7:Bool)(w:World):Calls Tryz.prog 186 #[.agg #[M a0,M a1,M a2,M a3,M a4,v,M a6,.bool a7]] w fun e w'=>e=.returned (.agg #[M a0,M a1,M a2,M a3])/\T_ w w':=
 Zo1 v ⟨a0,a1,a2,a3,a4,[],a6,a7⟩ w
def Za2 (x:RecD):Bool:=inB x.owner 1 6&&inB x.seq 1 100000 &&
 (if x.kind=1 then inB x.area 0 2&&x.key==0&&Zbs x.owner x.near&&x.cost==0 && !x.far
  else if x.kind=2 then inB x.area 0 2&&inB x.key 1 6&&x.near.length==0&&inB x.cost 0 60000 && !x.far
  else if x.kind=3 then x.area==9&&inB x.key 1 9&&x.near.length==0&&(inB x.cost 1 1000||x.cost==60000)
  else false)
theorem ZnY (v1:Value)(x:RecD)(w:World)(hl:x.near.length<=1048576)(hv:ZaG w v1 x.near w.heap.size):
  Calls Tryz.prog 93 #[.agg (recC x v1)] w fun e w'=>e=.returned (.bool (Za2 x))/\T_ w w':=by
 obtain⟨p1,c1,rfl⟩:=hv.shape;have HN:=hide (fun W (h:T_ w W)=>ZpH (.slice p1 x.near.length c1) x W hl (hv.then h));obtain⟨R,hR⟩:∃ R,R=Za2 x:=⟨_,rfl⟩;rw [<-hR];obtain⟨qn,hqn⟩:∃ q,q=Zbs x.owner x.near:=⟨_,rfl⟩;rw [<-hqn] at HN;unfold Za2 at hR;rw [<-hqn] at hR;obtain⟨area,kind,owner,key,seq,ns,cost,far⟩:=x;unfold recC at HN |-;simp only [] at HN hR hl hv |-
 have hnew:=YAE w (.cells #[M area,M kind,M owner,M key,M seq,.slice p1 ns.length c1,M cost,.bool far] 39);have B0:T_ w (w.alloc (.cells #[M area,M kind,M owner,M key,M seq,.slice p1 ns.length c1,M cost,.bool far] 39)):=(YAC _ _).alloc (YA _) _;have H1:=hide (ZbS owner 1 6);have H2:=hide (ZbS seq 1 100000);obtain⟨q1,hq1⟩:∃ q,q=inB owner 1 6:=⟨_,rfl⟩;obtain⟨q2,hq2⟩:∃ q,q=inB seq 1 100000:=⟨_,rfl⟩;rw [<-hq1] at H1 hR;rw [<-hq2] at H2 hR;have NEW:=hide hnew;have HR:=hide hR;have HL:=hide hl;clear hnew hR hq1 hq2 hqn hv hl
 go_enter Tryz.func93,Tryz.ntmps93
 go_wp2_with fail
 refine (H1 _).mono ?_;rintro e w1 ⟨rfl,rfl⟩;cases q1
 ·go_wp2;go_ret;exact⟨Zai (by rw [HR.out];rfl),B0⟩
 go_wp2_with fail
 refine (H2 _).mono ?_;rintro e w1 ⟨rfl,rfl⟩;cases q2
 ·go_wp2;go_ret;exact⟨Zai (by rw [HR.out];rfl),B0⟩
 clear H1 H2;by_cases hk1:kind=1
 ·subst hk1;have HR2:=hide (show R=(inB area 0 2&&key==0&&qn&&cost==0 && !far) by have:=HR.out;simpa using this);have H3:=hide (ZbS area 0 2);obtain⟨q3,hq3⟩:∃ q,q=inB area 0 2:=⟨_,rfl⟩;rw [<-hq3] at H3 HR2;clear hq3 HR
  go_wp2_with fail
  refine (H3 _).mono ?_;rintro e w1 ⟨rfl,rfl⟩;cases q3
  ·go_wp2;go_ret;exact⟨Zai (by rw [HR2.out];rfl),B0⟩
  by_cases hkey:key=0
  case neg=>
   have hd:(key==0)=false:=by simpa using hkey
   rw [hd] at HR2;go_wp2;go_ret;exact⟨Zai (by rw [HR2.out];rfl),B0⟩
  subst hkey
  go_wp2_with fail
  refine (HN _ B0).mono ?_;rintro e w2 ⟨rfl,b2⟩;have hx2:w2.heap[w.heap.size]? = some (.cells #[M area,M 1,M owner,M 0,M seq,.slice p1 ns.length c1,M cost,.bool far] 39):=by rw [b2.block _ (by simp)];exact NEW
  have f6:=Zaa hx2 6;have f7:=Zaa hx2 7;simp at f6 f7;have B2:=B0.trans (b2.mono B0.size);clear hx2 b2 NEW B0;cases qn
  ·go_wp2;go_ret;exact⟨Zai (by rw [HR2.out];rfl),B2⟩
  by_cases hco:cost=0
  case neg=>
   have hd:(cost==0)=false:=by simpa using hco
   rw [hd] at HR2;go_wp2;go_ret;exact⟨Zai (by rw [HR2.out];rfl),B2⟩
  subst hco;cases far
  ·go_wp2;go_ret;exact⟨Zai (by rw [HR2.out];rfl),B2⟩
  ·go_wp2;go_ret;exact⟨Zai (by rw [HR2.out];rfl),B2⟩
 have k1:(kind==1)=false:=by simpa using hk1
 by_cases hk2:kind=2
 ·subst hk2;have HR2:=hide (show R=(inB area 0 2&&inB key 1 6&&ns.length==0&&inB cost 0 60000 && !far) by have:=HR.out;simpa using this);have H3:=hide (ZbS area 0 2);obtain⟨q3,hq3⟩:∃ q,q=inB area 0 2:=⟨_,rfl⟩;rw [<-hq3] at H3 HR2;have H4:=hide (ZbS key 1 6);obtain⟨q4,hq4⟩:∃ q,q=inB key 1 6:=⟨_,rfl⟩;rw [<-hq4] at H4 HR2;have H5:=hide (ZbS cost 0 60000);obtain⟨q5,hq5⟩:∃ q,q=inB cost 0 60000:=⟨_,rfl⟩;rw [<-hq5] at H5 HR2;clear hq3 hq4 hq5 HR hk1 k1
  go_wp2_with fail
  refine (H3 _).mono ?_;rintro e w1 ⟨rfl,rfl⟩;cases q3
  ·go_wp2;go_ret;exact⟨Zai (by rw [HR2.out];rfl),B0⟩
  go_wp2_with fail
  refine (H4 _).mono ?_;rintro e w1 ⟨rfl,rfl⟩;cases q4
  ·go_wp2;go_ret;exact⟨Zai (by rw [HR2.out];rfl),B0⟩
  by_cases hn0:ns.length=0
  case neg=>
   have hd:((ns.length:Int)==0)=false:=by simp;intro h;rw [h] at hn0;exact hn0 rfl
   have hR2:R=false:=by rw [HR2.out,show (ns.length==0)=false by simpa using hn0];rfl
   have HR3:=hide hR2;clear hR2 hn0 HR2;go_wp2;go_ret;exact⟨Zai HR3,B0⟩
  have hd:((ns.length:Int)==0)=true:=by simp;exact List.length_eq_zero_iff.1 hn0
  have HR3:=hide (show R=(q5 && !far) by have:=HR2.out;rw [show (ns.length==0)=true by simpa using hn0] at this;simpa using this);clear hn0 HR2
  go_wp2_with fail
  refine (H5 _).mono ?_;rintro e w1 ⟨rfl,rfl⟩;cases q5
  ·go_wp2;go_ret;exact⟨Zai (by rw [HR3.out];rfl),B0⟩
  cases far
  ·go_wp2;go_ret;exact⟨Zai (by rw [HR3.out];rfl),B0⟩
  ·go_wp2;go_ret;exact⟨Zai (by rw [HR3.out];rfl),B0⟩
 have k2:(kind==2)=false:=by simpa using hk2
 by_cases hk3:kind=3
 ·subst hk3;have HR2:=hide (show R=(area==9&&inB key 1 9&&ns.length==0&&(inB cost 1 1000||cost==60000)) by have:=HR.out;simpa using this);have H4:=hide (ZbS key 1 9);obtain⟨q4,hq4⟩:∃ q,q=inB key 1 9:=⟨_,rfl⟩;rw [<-hq4] at H4 HR2;have H5:=hide (ZbS cost 1 1000);obtain⟨q5,hq5⟩:∃ q,q=inB cost 1 1000:=⟨_,rfl⟩;rw [<-hq5] at H5 HR2;clear hq4 hq5 HR hk1 k1 hk2 k2;by_cases ha:area=9
  case neg=>
   have hd:(area==9)=false:=by simpa using ha
   rw [hd] at HR2;go_wp2;go_ret;exact⟨Zai (by rw [HR2.out];rfl),B0⟩
  subst ha
  go_wp2_with fail
  refine (H4 _).mono ?_;rintro e w1 ⟨rfl,rfl⟩;cases q4
  ·go_wp2;go_ret;exact⟨Zai (by rw [HR2.out];rfl),B0⟩
  by_cases hn0:ns.length=0
  case neg=>
   have hd:((ns.length:Int)==0)=false:=by simp;intro h;rw [h] at hn0;exact hn0 rfl
   have hR2:R=false:=by rw [HR2.out,show (ns.length==0)=false by simpa using hn0];rfl
   have HR3:=hide hR2;clear hR2 hn0 HR2;go_wp2;go_ret;exact⟨Zai HR3,B0⟩
  have hd:((ns.length:Int)==0)=true:=by simp;exact List.length_eq_zero_iff.1 hn0
  have HR3:=hide (show R=(q5||cost==60000) by have:=HR2.out;rw [show (ns.length==0)=true by simpa using hn0] at this;simpa using this);clear hn0 HR2
  go_wp2_with fail
  refine (H5 _).mono ?_;rintro e w1 ⟨rfl,rfl⟩;cases q5
  ·go_wp2;go_ret;exact⟨Zai (by rw [HR3.out];rfl),B0⟩
  ·go_wp2;go_ret;exact⟨Zai (by rw [HR3.out];rfl),B0⟩
 have k3:(kind==3)=false:=by simpa using hk3
 have hR2:R=false:=by rw [HR.out,if_neg hk1,if_neg hk2,if_neg hk3];rfl
 have HR2:=hide hR2;clear hR2 HR hk1 hk2 hk3;go_wp2;go_ret;exact⟨Zai HR2,B0⟩
def Zf5 (p l:Nr):Int:=cmpN p.to l.to
theorem ZrO (ls:List Nr):ascB Zf5 ls=ascB ordN ls:=by
 unfold ascB;congr 1;funext k;cases k with
 | zero=>rfl
 | succ k=>
  simp only [Zcm]
  split
  ·rename_i p l _ _
   have h:(Zf5 p l<0)↔(ordN p l<0):=by
    unfold Zf5 ordN;rw [ZdX];omega
   exact decide_eq_decide.2 h
  ·rfl
theorem Zjp (l m:Nr)(w:World):Calls Tryz.prog 258 #[nrV l,nrV m] w fun e w'=>e=.returned (M (Zf5 l m))/\T_ w w':=by
 obtain⟨a,b⟩:=l;obtain⟨a',b'⟩:=m;unfold nrV Zf5;simp only [];have H:=hide (Zbm a a')
 go_enter Tryz.func258,Tryz.ntmps258
 go_wp2_with fail
 refine (H _).mono ?_;rintro e w1 ⟨rfl,rfl⟩;go_wp2;go_ret;exact⟨rfl,Zap _ _⟩
theorem ZkZ (v:Value)(ls:List Nr)(w:World)(hls:ls.length<=1048576)(hv:ZaG w v ls w.heap.size):
  Calls Tryz.prog 257 #[v,.func (.func 258) #[] #[]] w fun e w'=>e=.returned (.bool (ascB Zf5 ls))/\T_ w w':=by
 obtain⟨a,cap,rfl⟩:=hv.shape;have HV:=hide hv;clear hv
 go_enter Tryz.func257,Tryz.ntmps257
 go_wp2
 go_loopw [5] (fun i wr=>∃ k:Nat,1<=k/\(k<=ls.length\/k=1)/\i=M k/\(∀ j,j<k->Zcm Zf5 ls j=true)/\T_ w wr) (fun i _=>ls.length+1-(intOf i).toNat)
 case atStart=>exact ⟨1,by omega,by omega,rfl,fun j hj=>by (obtain rfl:j=0:=by omega);rfl,YAC _ _⟩
 case round=>
  obtain⟨k,hk1,hk,rfl,hno,hb⟩:=hrel;have HNO:=hide hno;clear hno;by_cases hlt:k<ls.length
  ·obtain ⟨l,hl⟩:∃ l,ls[k]? = some l:=⟨ls[k],YAA hlt⟩;obtain⟨j,hj⟩:∃ j,k=j+1:=⟨k-1,by omega⟩;obtain⟨p,hp⟩:∃ p,ls[j]? = some p:=⟨ls[j],YAA (by omega)⟩;obtain⟨b,off,cap',hve,hbb,c0,c1⟩:=HV.out.cells k l hl;cases hve;obtain⟨b',off',cap2,hve2,hbb2,d0,d1⟩:=HV.out.cells j p hp;cases hve2;replace c0:=(hb.cell hbb).trans c0;replace c1:=(hb.cell hbb).trans c1;replace d0:=(hb.cell hbb).trans d0;replace d1:=(hb.cell hbb).trans d1;have hat:Zcm Zf5 ls k=decide (Zf5 p l<0):=by rw [hj];exact Zb9 hp (by rw [<-hj];exact hl)
   have hzr:=hb.size;have hbr:b<wr.heap.size:=by omega
   have hki:(0:Int)<=(k:Int):=by omega
   have hkj:(k:Int)<(ls.length:Int):=by omega
   have hj1:(k:Int)-1=(j:Int):=by omega
   have hj2:(0:Int)<=(j:Int):=by omega
   have hj3:(j:Int)<(ls.length:Int):=by omega
   have hj5:IntKind.i64.wrap (j:Int)=(j:Int):=ZaN _ (by omega) (by omega);have HORD:=hide (Zjp p l);have HAT:=hide hat;have HJ:=hide hj;clear hl hp hat hj;obtain⟨x,hx⟩:∃ x,x=Zf5 p l:=⟨_,rfl⟩;rw [<-hx] at HORD HAT;clear hx;unfold nrV at HORD;by_cases hx0:x<0
   ·have hx1:¬(0:Int)<=x:=by omega
    rw [YAc hx0] at HAT;go_wp2
    go_region_held3 (fun W=>W.cell? (U b (off+k*2))=some (M l.to)/\W.cell? (U b (off+k*2+1))=some (M l.c)/\W.cell? (U b (off+j*2))=some (M p.to)/\W.cell? (U b (off+j*2+1))=some (M p.c)) (first | go_keep | (refine ⟨?_,?_,?_,?_⟩ <;> (rw [hbc.cell (by assumption)];assumption))) (first | (go_at_call 258;refine (HORD _).mono ?_;rintro e w2 ⟨rfl,hbc⟩))
    go_wp2;exact⟨⟨k+1,by omega,by omega,by go_num,ZaT HNO HAT,hb.drew.trans (hbc.mono hb.size)⟩,by simp [intOf];omega⟩
   ·have hx1:(0:Int)<=x:=by omega
    rw [YAZ hx0] at HAT;have hf:ascB Zf5 ls=false:=ZaW hlt HAT;have HF:=hide hf;clear hf;go_wp2
    go_region_held3 (fun W=>W.cell? (U b (off+k*2))=some (M l.to)/\W.cell? (U b (off+k*2+1))=some (M l.c)/\W.cell? (U b (off+j*2))=some (M p.to)/\W.cell? (U b (off+j*2+1))=some (M p.c)) (first | go_keep | (refine ⟨?_,?_,?_,?_⟩ <;> (rw [hbc.cell (by assumption)];assumption))) (first | (go_at_call 258;refine (HORD _).mono ?_;rintro e w2 ⟨rfl,hbc⟩))
    go_wp2;go_ret;exact⟨Zai HF,hb.drew.trans (hbc.mono hb.size)⟩
  ·have hall:ascB Zf5 ls=true:=Zbi fun i hi=>HNO i (by omega);have HA:=hide hall;clear hall;go_wp2;go_ret;exact⟨Zai HA,hb⟩
theorem ZoT (o:Int)(v:Value)(ls:List Nr)(w:World)(hls:ls.length<=1048576)(hv:ZaG w v ls w.heap.size):
  Calls Tryz.prog 232 #[M o,v] w fun e w'=>e=.returned (.bool (Zbs o ls))/\T_ w w':=by
 obtain⟨a,cap,rfl⟩:=hv.shape;have HV:=hide hv;clear hv
 go_enter Tryz.func232,Tryz.ntmps232
 go_wp2
 go_loopw [9] (fun i wr=>∃ k:Nat,k<=ls.length/\i=M k/\(∀ j,j<k->okAt (ZcB o) ls j=true)/\T_ w wr) (fun i _=>ls.length-(intOf i).toNat)
 case atStart=>exact ⟨0,by omega,rfl,by omega,YAC _ _⟩
 case round=>
  obtain⟨k,hk,rfl,hno,hb⟩:=hrel;have HNO:=hide hno;clear hno;by_cases hlt:k<ls.length
  ·obtain ⟨l,hl⟩:∃ l,ls[k]? = some l:=⟨ls[k],YAA hlt⟩;obtain⟨b,off,cap',hve,hbb,c0,c1⟩:=HV.out.cells k l hl;cases hve;replace c0:=(hb.cell hbb).trans c0;replace c1:=(hb.cell hbb).trans c1;have hki:(0:Int)<=(k:Int):=by omega
   have hkj:(k:Int)<(ls.length:Int):=by omega
   have HAT:=hide (ZcE (ok:=ZcB o) hl);obtain⟨lt,lc⟩:=l;simp only [ZcB] at HAT c0 c1;obtain⟨q1,hq1⟩:∃ q,q=inB lt 1 6:=⟨_,rfl⟩;obtain⟨q3,hq3⟩:∃ q,q=inB lc 1 1000:=⟨_,rfl⟩;have H1:=hide (Zba lt 1 6);have H3:=hide (Zba lc 1 1000);rw [<-hq1] at H1 HAT;rw [<-hq3] at H3 HAT;clear hl hq1 hq3;have hzr:=hb.size;have B2:T_ w (wr.alloc (.cells #[M lt,M lc] 106)):=hb.alloc hb.size _
   go_wp2_with fail
   refine (H1 _).mono ?_;rintro e w2 ⟨rfl,rfl⟩;cases q1
   ·have hf:Zbs o ls=false:=by unfold Zbs ZbV;rw [ZaW hlt HAT.out];rfl
    have HF:=hide hf;clear hf;go_wp2;go_ret;exact⟨Zai HF,B2⟩
   by_cases hlo:lt=o
   ·have hd:(lt==o)=true:=by simpa using hlo
    have hf:Zbs o ls=false:=by
     have:=HAT.out;rw [hd] at this;unfold Zbs ZbV;rw [ZaW hlt this];rfl
    have HF:=hide hf;clear hf hlo HAT;go_wp2;go_ret;exact⟨Zai HF,B2⟩
   have hd:(lt==o)=false:=by simpa using hlo
   rw [hd] at HAT;clear hlo
   go_wp2_with fail
   refine (H3 _).mono ?_;rintro e w2 ⟨rfl,rfl⟩;cases q3
   ·have hf:Zbs o ls=false:=by unfold Zbs ZbV;rw [ZaW hlt HAT.out];rfl
    have HF:=hide hf;clear hf;go_wp2;go_ret;exact⟨Zai HF,B2⟩
   ·go_wp2;exact⟨⟨k+1,by omega,by go_num,ZaT HNO HAT,B2⟩,by simp [intOf];omega⟩
  ·have hall:ZbV (ZcB o) ls=true:=Zbi fun i hi=>HNO i (by omega);have hF:Zbs o ls=ascB Zf5 ls:=by unfold Zbs;rw [hall,ZrO];rfl
   have HF:=hide hF;clear hF hall;have HVR:=hide (HV.out.then hb)
   go_wp2_with fail
   refine (ZkZ _ ls _ hls HVR).mono ?_;rintro e w2 ⟨rfl,hbc⟩;go_wp2;go_ret;exact⟨Zai HF,hb.trans (hbc.mono hb.size)⟩
end Go.Proofs.YtcnjnibnecpddaaGreat
