/-
  Parts.
-/
import Derived.Test.YtikloccefmofdaaGreatFi31
namespace Go.Proofs.YtikloccefmofdaaGreat
open Go.RowKit
set_option linter.unusedSimpArgs false
set_option linter.unusedVariables false
set_option maxRecDepth 100000
set_option maxHeartbeats 8000000
variable {w:World}
abbrev wldV (N:Nat) (v1 v2 v3 v4 v5 v6 v7 v8:Value) (er:Int):Value:=.agg #[.int .i64 (N:Int),v1,v2,v3,v4,v5,v6,v7,v8,.int .i64 er]
abbrev pakV (kd f t r:Int) (v9 v10:Value):Value:=.agg #[.int .i64 kd,.int .i64 f,.int .i64 t,.int .i64 r,v9,v10]
def upI (N:Nat)(zs:List Bool)(v:Int):Bool:=inB v 1 (N:Int)&&upB zs (v-1).toNat
def lkUp (ls:List Lk)(bs:List Bool)(f t r:Int):Bool:=(ls.zip bs).any (ZdD f t r)
theorem Zmh (N:Nat)(v1 v2 v3 v4 v5 v6 v7 v8:Value)(er:Int)(zs:List Bool)(v:Int)(w:World)(hz:Zbh w v4 zs w.heap.size)(hl:zs.length=N)(hN:N<=1048576):
  Calls Tryz.prog 44 #[wldV N v1 v2 v3 v4 v5 v6 v7 v8 er,.int .i64 v] w fun e w'=>e=.returned (.bool (upI N zs v))/\Below w.heap.size w w':=by
 obtain⟨a4,c4,rfl⟩:=hz.shape;have B0:Below w.heap.size w (w.alloc (.cells #[.int .i64 (N:Int),v1,v2,v3,.slice a4 zs.length c4,v5,v6,v7,v8,.int .i64 er] 52)):=(YAC _ _).alloc (YA _) _;unfold wldV;by_cases hin:1<=v/\v<=(N:Int)
 ·have hI:inB v 1 (N:Int)=true:=by simp [inB,hin.1,hin.2]
  obtain⟨j,hj⟩:∃ j:Nat,v=(j:Int)+1:=⟨(v-1).toNat,by omega⟩;obtain⟨z,hzj⟩:∃ z,zs[j]? = some z:=⟨zs[j]'(by omega),YAA _⟩;have HU:=hide (show upI N zs v=z by unfold upI;rw [hI,show (v-1).toNat=j by omega,ZfZ hzj];rfl);obtain⟨g,off,cap',hve,hgb,c0⟩:=hz.cell j z hzj;cases hve;rw [hl] at B0 |-;have hw1:IntKind.i64.wrap ((j:Int)+1-1)=(j:Int):=by rw [show (j:Int)+1-1=(j:Int) by omega];exact ZaH _ (by omega) (by omega)
  have hj0:(0:Int)<=(j:Int):=by omega
  have hj1:(j:Int)<(N:Int):=by omega
  have hgn:¬g=w.heap.size:=by omega
  have HI:=hide hI;subst hj;clear hzj hz hI hin
  go_enter Tryz.func44,Tryz.ntmps44
  go_wp2_with fail
  refine (Za5 _ _ _ _).mono ?_;rintro e w1 ⟨rfl,rfl⟩
  (try rw [Int.min_self])
  rw [HI.out];go_wp2;go_ret;exact⟨Zah HU.out,B0⟩
 ·have hI:inB v 1 (N:Int)=false:=by
   cases e:inB v 1 (N:Int) with
   | false=>rfl
   | true=>simp [inB] at e;exact absurd e hin
  have HU:=hide (show upI N zs v=false by unfold upI;rw [hI];rfl);have HI:=hide hI;rw [hl] at B0 |-;clear hz hI hin
  go_enter Tryz.func44,Tryz.ntmps44
  go_wp2_with fail
  refine (Za5 _ _ _ _).mono ?_;rintro e w1 ⟨rfl,rfl⟩
  (try rw [Int.min_self])
  rw [HI.out];go_wp2;go_ret;exact⟨Zah HU.out,B0⟩
theorem Zld (f t r la lb lc lr:Int):ZbD f t r ⟨la,lb,lc,lr⟩=(decide (la=f/\lb=t/\lr=r)||decide (lb=f/\la=t/\lr=r)):=by
 rw [Bool.eq_iff_iff];simp [ZbD];constructor
 ·rintro ⟨h,h1 | h1⟩
  ·exact .inl ⟨h1.1,h1.2,h⟩
  ·exact .inr ⟨h1.2,h1.1,h⟩
 ·rintro (h | h)
  ·exact ⟨h.2.2,.inl ⟨h.1,h.2.1⟩⟩
  ·exact ⟨h.2.2,.inr ⟨h.2.1,h.1⟩⟩
theorem ZqU {v1:Value}{ls:List Lk}(h:w.ownsRow 0 78 4 v1 ls.length (flat lkE ls)):(v1=.slice none 0 0/\ls=[])\/∃ g cap,v1=.slice (some ⟨g,0,none⟩) ls.length cap/\g<w.heap.size/\ls.length<=cap/\cap<=9223372036854775807:=by
 rcases h.2 with ⟨h0,h1⟩ | ⟨g,cap,cur,hv,hb,hh,hnc,hcm,_⟩
 ·refine .inl ⟨h0,?_⟩;have e:=h.1;rw [h0] at *;cases ls with
  | nil=>rfl
  | cons a l=>simp at h1
 ·exact .inr ⟨g,cap,hv,Zab hh,hnc,by unfold maxLen at hcm;omega⟩
theorem Zno (N:Nat)(v1 v2 v3 v4 v5 v6 v7 v8:Value)(er kd f t r:Int)(v9 v10:Value)(ls:List Lk)(bs:List Bool)(w:World)(h1:w.ownsRow 0 78 4 v1 ls.length (flat lkE ls))(h3:Zbh w v3 bs w.heap.size)(hl:bs.length=ls.length)(hls:ls.length<=1048576):
  Calls Tryz.prog 80 #[wldV N v1 v2 v3 v4 v5 v6 v7 v8 er,pakV kd f t r v9 v10] w fun e w'=>e=.returned (.bool (lkUp ls bs f t r))/\Below w.heap.size w w':=by
 obtain⟨a3,c3,rfl⟩:=h3.shape;unfold wldV pakV;rcases ZqU h1 with ⟨rfl,rfl⟩ | ⟨g,cap,rfl,hgb,hcap,hcap2⟩
 ·have HU:=hide (show lkUp [] bs f t r=false by simp [lkUp]);rw [hl];clear h1 h3 hl hls
  go_enter Tryz.func80,Tryz.ntmps80
  go_wp2
  go_loopw [23] (fun i wr=>i=.int .i64 0/\Below w.heap.size w wr) (fun _ _=>0)
  case atStart=>exact ⟨rfl,ZaB _ _⟩
  case round=>
   obtain⟨rfl,hb⟩:=hrel;go_wp2;go_ret;exact⟨Zah HU.out,hb⟩
 have H1:=hide (show ZaK w (.slice (some ⟨g,0,none⟩) ls.length cap) ls w.heap.size from Zam h1);have H3:=hide h3;have HL:=hide hl;rw [hl];clear h1 h3 hl;obtain⟨R,hR⟩:∃ R,R=lkUp ls bs f t r:=⟨_,rfl⟩;rw [<-hR];have HR:=hide hR;clear hR;have hci:(ls.length:Int)<=(cap:Int):=by omega
 have G0:=hide (show ((w.alloc (.cells #[.int .i64 (N:Int),.slice (some ⟨g,0,none⟩) ls.length cap,v2,.slice a3 ls.length c3,v4,v5,v6,v7,v8,.int .i64 er] 52)).alloc (.cells #[.int .i64 kd,.int .i64 f,.int .i64 t,.int .i64 r,v9,v10] 89)).heap[w.heap.size]? = some (.cells #[.int .i64 (N:Int),.slice (some ⟨g,0,none⟩) ls.length cap,v2,.slice a3 ls.length c3,v4,v5,v6,v7,v8,.int .i64 er] 52) by rw [YAH _ _ _ (by simp),YAE]);have G1:=hide (show ((w.alloc (.cells #[.int .i64 (N:Int),.slice (some ⟨g,0,none⟩) ls.length cap,v2,.slice a3 ls.length c3,v4,v5,v6,v7,v8,.int .i64 er] 52)).alloc (.cells #[.int .i64 kd,.int .i64 f,.int .i64 t,.int .i64 r,v9,v10] 89)).heap[w.heap.size+1]? = some (.cells #[.int .i64 kd,.int .i64 f,.int .i64 t,.int .i64 r,v9,v10] 89) by
  have:=YAE (w.alloc (.cells #[.int .i64 (N:Int),.slice (some ⟨g,0,none⟩) ls.length cap,v2,.slice a3 ls.length c3,v4,v5,v6,v7,v8,.int .i64 er] 52)) (.cells #[.int .i64 kd,.int .i64 f,.int .i64 t,.int .i64 r,v9,v10] 89);simpa using this)
 have B0:Below w.heap.size w ((w.alloc (.cells #[.int .i64 (N:Int),.slice (some ⟨g,0,none⟩) ls.length cap,v2,.slice a3 ls.length c3,v4,v5,v6,v7,v8,.int .i64 er] 52)).alloc (.cells #[.int .i64 kd,.int .i64 f,.int .i64 t,.int .i64 r,v9,v10] 89)):=ZaB _ _
 go_enter Tryz.func80,Tryz.ntmps80
 go_wp2;generalize (w.alloc (.cells #[.int .i64 (N:Int),.slice (some ⟨g,0,none⟩) ls.length cap,v2,.slice a3 ls.length c3,v4,v5,v6,v7,v8,.int .i64 er] 52)).alloc (.cells #[.int .i64 kd,.int .i64 f,.int .i64 t,.int .i64 r,v9,v10] 89)=w0 at *;have q1:=Zaa G1.out 1;have q2:=Zaa G1.out 2;have q3:=Zaa G1.out 3;have z3:=Zaa G0.out 3;simp at q1 q2 q3 z3;have hz1:=Zab G1.out;have hz0:=Zab G0.out;have hw0:=B0.size
 go_loopw [23] (fun i wr=>∃ k:Nat,k<=ls.length/\i=.int .i64 k/\(∀ j,j<k->∀ x,(ls.zip bs)[j]? = some x->ZdD f t r x=false)/\Below w0.heap.size w0 wr) (fun i _=>ls.length-(intOf i).toNat)
 case atStart=>exact ⟨0,by omega,rfl,by omega,YAC _ _⟩
 case round=>
  obtain⟨k,hk,rfl,hno,hb⟩:=hrel;have HNO:=hide hno;clear hno;have hsz:=hb.size
  rename World=>wa
  by_cases hlt:k<ls.length
  ·obtain ⟨l,hlk⟩:∃ l,ls[k]? = some l:=⟨ls[k],YAA hlt⟩;obtain⟨b,hbk⟩:∃ b,bs[k]? = some b:=⟨bs[k]'(by rw [HL.out];exact hlt),YAA _⟩;have HZ:=hide (ZrD hlk hbk);obtain⟨g1,off,cap',hve,hbb,c0,c1,c2,c3'⟩:=H1.out.cells k l hlk;cases hve;obtain⟨g3,of3,cap3,hve3,hb3,d0⟩:=H3.out.cell k b hbk;cases hve3;have BA:Below w.heap.size w wa:=B0.trans (hb.mono hw0);replace c0:=(BA.cell hbb).trans c0;replace c1:=(BA.cell hbb).trans c1;replace c2:=(BA.cell hbb).trans c2;rw [<-BA.cell (p:=⟨g,0+k*4+3,none⟩) hbb] at c3';replace q1:=(hb.cell hz1).trans q1;replace q2:=(hb.cell hz1).trans q2;replace q3:=(hb.cell hz1).trans q3;simp only [Nat.zero_add] at c0 c1 c2 c3';have hki:(0:Int)<=(k:Int):=by omega
   have hkj:(k:Int)<(ls.length:Int):=by omega
   have hbo:=ZiP l;clear hlk hbk;obtain⟨la,lb,lc,lr⟩:=l;unfold Zn9 lkV at hbo;simp only [] at hbo c0 c1 c2 c3';have HBO:=hide hbo;clear hbo;have hz5:w.heap.size+1<wa.heap.size:=by omega
   have BL:Below wa.heap.size wa (wa.alloc (.cells #[.int .i64 la,.int .i64 lb,.int .i64 lc,.int .i64 lr] 78)):=(YAC _ _).alloc (YA _) _;replace q1:=(BL.cell hz5).trans q1;replace q2:=(BL.cell hz5).trans q2;replace q3:=(BL.cell hz5).trans q3;clear BL;have n2:g<wa.heap.size:=by omega
   go_wp2_with fail
   refine (HBO.out _).mono ?_;rintro e w1 ⟨rfl,b1⟩;have hp:w1.heap[wa.heap.size+1]? = some (.cells #[.int .i64 f,.int .i64 t,.int .i64 lc,.int .i64 r] 78):=by
    rw [b1.block _ (by simp)];have:=YAE (wa.alloc (.cells #[.int .i64 la,.int .i64 lb,.int .i64 lc,.int .i64 lr] 78)) (.cells #[.int .i64 f,.int .i64 t,.int .i64 lc,.int .i64 r] 78);simpa using this
   have B1:Below w0.heap.size w0 w1:=(hb.trans ((ZaB _ _).mono hb.size)).trans (b1.mono (by simp;omega));have B2:Below w.heap.size w w1:=B0.trans (B1.mono hw0);have p0:=Zaa hp 0;have p1:=Zaa hp 1;have p2:=Zaa hp 2;have p3:=Zaa hp 3;simp at p0 p1 p2 p3;have hpl:=Zab hp;clear hp b1 c0 c1 c2 c3' hb q1 q2 q3;obtain⟨z,hz⟩:∃ z,z=wa.heap.size+1:=⟨_,rfl⟩;rw [<-hz] at p0 p1 p2 p3 hpl |-;clear hz;replace z3:=(B1.cell hz0).trans z3;replace d0:=(B2.cell hb3).trans d0;have hz4:w.heap.size<w1.heap.size:=by have:=B1.size;omega
   have hg4:g3<w1.heap.size:=by have:=B2.size;omega
   go_wp2
   go_loopw [39] (fun i wr=>∃ j:Nat,j<=2/\i=.int .i64 j/\Hid (1<=j->(decide (la=f/\lb=t/\lr=r)&&b)=false)/\Hid (2<=j->(decide (lb=f/\la=t/\lr=r)&&b)=false)/\Below w1.heap.size w1 wr) (fun i _=>2-(intOf i).toNat)
   case atStart=>exact ⟨0,by omega,rfl,hide (by omega),hide (by omega),YAC _ _⟩
   case round=>
    obtain⟨j,hj,rfl,HN1,HN2,hb⟩:=hrel;have hs2:=hb.size;replace p0:=(hb.cell hpl).trans p0;replace p1:=(hb.cell hpl).trans p1;replace p2:=(hb.cell hpl).trans p2;replace p3:=(hb.cell hpl).trans p3;replace z3:=(hb.cell hz4).trans z3;replace d0:=(hb.cell hg4).trans d0;have m1:z<wr.heap.size:=by omega
    have m2:w.heap.size<wr.heap.size:=by omega
    have m3:g3<wr.heap.size:=by omega
    obtain rfl | rfl | rfl:j=0\/j=1\/j=2:=by omega
    ·have i0:=fun W=>Zhv W (.int .i64 la) (.int .i64 lb) (.int .i64 lc) (.int .i64 lr) (.int .i64 lb) (.int .i64 la) (.int .i64 lc) (.int .i64 lr);by_cases h:la=f/\lb=t/\lr=r
     ·have e0:=ZgQ (lc:=lc) h;have HH:=hide h;clear h;cases b
      ·go_wp2;go_roundw
       case rel=>exact ⟨1,by omega,by go_num,hide (by simp),hide (by omega),hb.alloc hb.size _⟩
       case measure=>simp [intOf]
      ·have HF:=hide (show R=true by
        rw [HR.out];exact List.any_eq_true.2 ⟨_,YAG HZ.out,by simp only [ZdD,Zld,YAT HH.out];rfl⟩)
       go_wp2;go_ret;exact⟨Zah HF.out,B2.trans ((hb.alloc hb.size _).mono B2.size)⟩
     ·have e0:=Zjt (lc:=lc) h;have HH:=hide h;clear h;go_wp2;go_roundw
      case rel=>exact ⟨1,by omega,by go_num,hide (fun _=>by rw [YAe HH.out];rfl),hide (by omega),hb.alloc hb.size _⟩
      case measure=>simp [intOf]
    ·have i0:=fun W=>Zhw W (.int .i64 la) (.int .i64 lb) (.int .i64 lc) (.int .i64 lr) (.int .i64 lb) (.int .i64 la) (.int .i64 lc) (.int .i64 lr);by_cases h:lb=f/\la=t/\lr=r
     ·have e0:=ZgQ (lc:=lc) h;have HH:=hide h;clear h;cases b
      ·go_wp2;go_roundw
       case rel=>exact ⟨2,by omega,by go_num,hide (by simp),hide (by simp),hb.alloc hb.size _⟩
       case measure=>simp [intOf]
      ·have HF:=hide (show R=true by
        rw [HR.out];exact List.any_eq_true.2 ⟨_,YAG HZ.out,by simp only [ZdD,Zld,YAT HH.out,Bool.or_true,Bool.and_true]⟩)
       go_wp2;go_ret;exact⟨Zah HF.out,B2.trans ((hb.alloc hb.size _).mono B2.size)⟩
     ·have e0:=Zjt (lc:=lc) h;have HH:=hide h;clear h;go_wp2;go_roundw
      case rel=>exact ⟨2,by omega,by go_num,hide (fun _=>HN1.out (by omega)),hide (fun _=>by rw [YAe HH.out];rfl),hb.alloc hb.size _⟩
      case measure=>simp [intOf]
    ·go_wp2;go_roundw
     case rel=>exact ⟨k+1,by omega,by go_num,(fun j hj x hx=>by
      by_cases e:j=k
      ·subst e;rw [HZ.out] at hx;cases hx;have a1:=HN1.out (by omega);have a2:=HN2.out (by omega);simp only [ZdD,Zld];cases b
       ·rfl
       ·rw [Bool.and_true] at a1 a2;rw [a1,a2];rfl
      ·exact HNO.out j (by omega) x hx),B1.trans (hb.mono B1.size)⟩
     case measure=>simp [intOf];omega
  ·have HF:=hide (show R=false by
    rw [HR.out];unfold lkUp;rw [List.any_eq_false];intro x hx;obtain⟨i,hi⟩:=List.getElem?_of_mem hx;have hil:i<(ls.zip bs).length:=(YAD.1 hi).1;rw [List.length_zip,HL.out] at hil;rw [HNO.out i (by omega) x hi];decide)
   go_wp2;go_ret;exact⟨Zah HF.out,B0.trans (hb.mono hw0)⟩
theorem Zk0 (N:Nat)(v1 v2 v3 v4 v5 v6 v7 v8:Value)(er kd f t r:Int)(v9 v10:Value)(ls:List Lk)(bs zs:List Bool)(w:World)(h1:w.ownsRow 0 78 4 v1 ls.length (flat lkE ls))(h3:Zbh w v3 bs w.heap.size)(h4:Zbh w v4 zs w.heap.size)(hl:bs.length=ls.length)(hls:ls.length<=1048576)(hz:zs.length=N)(hN:N<=1048576):
  Calls Tryz.prog 46 #[wldV N v1 v2 v3 v4 v5 v6 v7 v8 er,pakV kd f t r v9 v10] w fun e w'=>e=.returned (.bool (upI N zs f&&upI N zs t&&lkUp ls bs f t r))/\Below w.heap.size w w':=by
 have HU:=hide (fun W (hb:Below w.heap.size w W) (v:Int)=>Zmh N v1 v2 v3 v4 v5 v6 v7 v8 er zs v W (Zav.then h4 hb) hz hN);have HK:=hide (fun W (hb:Below w.heap.size w W)=>Zno N v1 v2 v3 v4 v5 v6 v7 v8 er kd f t r v9 v10 ls bs W (Zad h1 hb (YA _)) (Zav.then h3 hb) hl hls);clear h1 h3 h4 hl hls hz hN;unfold wldV pakV at *;have G0:=hide (show ((w.alloc (.cells #[.int .i64 (N:Int),v1,v2,v3,v4,v5,v6,v7,v8,.int .i64 er] 52)).alloc (.cells #[.int .i64 kd,.int .i64 f,.int .i64 t,.int .i64 r,v9,v10] 89)).heap[w.heap.size]? = some (.cells #[.int .i64 (N:Int),v1,v2,v3,v4,v5,v6,v7,v8,.int .i64 er] 52) by rw [YAH _ _ _ (by simp),YAE]);have G1:=hide (show ((w.alloc (.cells #[.int .i64 (N:Int),v1,v2,v3,v4,v5,v6,v7,v8,.int .i64 er] 52)).alloc (.cells #[.int .i64 kd,.int .i64 f,.int .i64 t,.int .i64 r,v9,v10] 89)).heap[w.heap.size+1]? = some (.cells #[.int .i64 kd,.int .i64 f,.int .i64 t,.int .i64 r,v9,v10] 89) by
  have:=YAE (w.alloc (.cells #[.int .i64 (N:Int),v1,v2,v3,v4,v5,v6,v7,v8,.int .i64 er] 52)) (.cells #[.int .i64 kd,.int .i64 f,.int .i64 t,.int .i64 r,v9,v10] 89);simpa using this)
 have B0:Below w.heap.size w ((w.alloc (.cells #[.int .i64 (N:Int),v1,v2,v3,v4,v5,v6,v7,v8,.int .i64 er] 52)).alloc (.cells #[.int .i64 kd,.int .i64 f,.int .i64 t,.int .i64 r,v9,v10] 89)):=ZaB _ _;obtain⟨p,hp⟩:∃ p,p=upI N zs f:=⟨_,rfl⟩;obtain⟨q,hq⟩:∃ q,q=upI N zs t:=⟨_,rfl⟩;obtain⟨k,hk⟩:∃ k,k=lkUp ls bs f t r:=⟨_,rfl⟩;have HP:=hide (fun W hb=>by have h:=HU.out W hb f;rw [<-hp] at h;exact h);have HQ:=hide (fun W hb=>by have h:=HU.out W hb t;rw [<-hq] at h;exact h);rw [<-hk] at HK;rw [<-hp, <-hq, <-hk];clear HU hp hq hk
 go_enter Tryz.func46,Tryz.ntmps46
 go_wp2_with fail
 refine (HP.out _ B0).mono ?_;rintro e w1 ⟨rfl,b1⟩;have B1:Below w.heap.size w w1:=B0.trans (b1.mono B0.size);have g0:=(b1.block _ (Zab G0.out)).trans G0.out;have g1:=(b1.block _ (Zab G1.out)).trans G1.out;have z0:=Zaa g0 0;have z1:=Zaa g0 1;have z2:=Zaa g0 2;have z3:=Zaa g0 3;have z4:=Zaa g0 4;have z5:=Zaa g0 5;have z6:=Zaa g0 6;have z7:=Zaa g0 7;have z8:=Zaa g0 8;have z9:=Zaa g0 9;have q2:=Zaa g1 2;simp at z0 z1 z2 z3 z4 z5 z6 z7 z8 z9 q2;have K0:=hide g0;have K1:=hide g1;clear g0 g1 b1 G0 G1;cases p
 ·go_wp2;go_ret;exact⟨by simp,B1⟩
 go_wp2_with fail
 refine (HQ.out _ B1).mono ?_;rintro e w2 ⟨rfl,b2⟩;have B2:Below w.heap.size w w2:=B1.trans (b2.mono B1.size);have g0:=(b2.block _ (Zab K0.out)).trans K0.out;have g1:=(b2.block _ (Zab K1.out)).trans K1.out;clear z0 z1 z2 z3 z4 z5 z6 z7 z8 z9 q2;have z0:=Zaa g0 0;have z1:=Zaa g0 1;have z2:=Zaa g0 2;have z3:=Zaa g0 3;have z4:=Zaa g0 4;have z5:=Zaa g0 5;have z6:=Zaa g0 6;have z7:=Zaa g0 7;have z8:=Zaa g0 8;have z9:=Zaa g0 9;have q0:=Zaa g1 0;have q1:=Zaa g1 1;have q2:=Zaa g1 2;have q3:=Zaa g1 3;have q4:=Zaa g1 4;have q5:=Zaa g1 5;simp at z0 z1 z2 z3 z4 z5 z6 z7 z8 z9 q0 q1 q2 q3 q4 q5;clear g0 g1 b2 K0 K1;cases q
 ·go_wp2;go_ret;exact⟨by simp,B2⟩
 go_wp2_with fail
 refine (HK.out _ B2).mono ?_;rintro e w3 ⟨rfl,b3⟩;have B3:Below w.heap.size w w3:=B2.trans (b3.mono B2.size);clear b3 z0 z1 z2 z3 z4 z5 z6 z7 z8 z9 q0 q1 q2 q3 q4 q5;go_wp2;go_ret;exact⟨by simp,B3⟩
theorem ZqF (l:Nr):∀ u∈nrE l,u.oneCell'=true:=by
 intro u hu;simp only [nrE,YAb,List.not_mem_nil,or_false] at hu;rcases hu with h | h <;> subst h <;> rfl
def ZhI (wr:World)(z:Nat)(nv:Value)(x:RecD):Prop:=wr.heap[z]? = some (.cells (recC x nv) 37)/\wr.ownsRow (z+1) 62 2 nv x.near.length (flat nrE x.near)
theorem ZhI.start (w:World)(v a:Int):ZhI (w.alloc (.cells #[.int .i64 a,.int .i64 1,.int .i64 v,.int .i64 0,.int .i64 1,.slice none 0 0,.int .i64 0,.bool false] 37)) w.heap.size (.slice none 0 0) (Zb2 v a []):=⟨YAE w _,YAZ _ _ _ _⟩
theorem ZhI.below {w':World}{z:Nat}{nv:Value}{x:RecD}(h:ZhI w z nv x)(hb:Below w.heap.size w w'):ZhI w' z nv x:=⟨by rw [hb.block z (Zab h.1)];exact h.1,Zad h.2 hb (YA _)⟩
theorem ZhI.push {w':World}{z:Nat}{nv nv':Value}{x y:RecD}{o:Obj}(h:ZhI w z nv x)(hg:(w.alloc o).grownBy w' nv.ownBlock)(hy:∀ v,recC y v=recC x v)(ho:w'.ownsRow (z+1) 62 2 nv' y.near.length (flat nrE y.near)):ZhI (w'.setCell ⟨z,5,none⟩ nv') z nv' y:=by
 have hz:=Zab h.1;have h1:w'.heap[z]? = some (.cells (recC x nv) 37):=by
  rw [hg.block z (by simp;omega) (fun e=>by have:=(h.2.lt z e.symm).1;omega),YAH _ _ _ hz];exact h.1
 refine⟨?_,ZaG ho (by omega)⟩;rw [YAU _ _ 5 _ _ nv' h1,hy];rfl
theorem ZnF (v1 v2 y z:Value)(N:Nat)(ls:List Lk)(ts:List Th)(bs zs:List Bool)(w:World)(hok:Za0 ⟨(N:Int),ls,ts⟩=true)(hN:1<=N)(hN6:N<=6)(hls:ls.length<=12)(hts:ts.length<=4)
  (htho:∀ t∈ts,1<=t.o/\t.o<=(N:Int)) (h1:ZaK w v1 ls w.heap.size) (h2:ZaS w v2 ts w.heap.size) (h3:Zbh w y bs w.heap.size) (h4:Zbh w z zs w.heap.size) (hbs:bs.length=ls.length) (hzs:zs.length=N):
  Calls Tryz.prog 7 #[.agg #[.int .i64 (N:Int),v1,v2],y,z] w fun e w'=>∃ o qs,e=.returned (.tuple #[o,.bool true])/\fsts qs=ZcI ls ts bs zs N/\tot qs<=500/\RecsOwn w' w.heap.size w'.heap.size o qs/\Below w.heap.size w w':=by
 obtain⟨a1,c1,rfl⟩:=h1.shape;obtain⟨a2,c2,rfl⟩:=h2.shape;obtain⟨a3,c3,rfl⟩:=h3.shape;obtain⟨a4,c4,rfl⟩:=h4.shape;have HNO:=hide (fun W (hb:Below w.heap.size w W)=>ZnH (.agg #[.int .i64 (N:Int),.slice a1 ls.length c1,.slice a2 ts.length c2]) ⟨(N:Int),ls,ts⟩ W (show ls.length<=1048576 by omega) (show ts.length<=1048576 by omega) ⟨_,_,rfl,Zav.then h1 hb,Zav.then h2 hb⟩);have HAR:=hide (fun (f:Int) W (hb:Below w.heap.size w W)=>Zio (.int .i64 (N:Int)) (.slice a1 ls.length c1) (.slice a2 ts.length c2) ls f W (show ls.length<=1048576 by omega) (Zav.then h1 hb));have HBO:=hide (fun (f:Int) W (hb:Below w.heap.size w W)=>ZlF (.int .i64 (N:Int)) (.slice a1 ls.length c1) (.slice a2 ts.length c2) ls f W (show ls.length<=1048576 by omega) (Zav.then h1 hb));have HOP:=hide (fun (f t r:Int) W (hb:Below w.heap.size w W)=>ZpA (.int .i64 (N:Int)) (.slice a1 ls.length c1) (.slice a2 ts.length c2) (.slice a3 bs.length c3) ls bs f t r W (show ls.length<=1048576 by omega) hbs (Zav.then h1 hb) (Zav.then h3 hb));have HUP:=hide (fun (k:Nat) (b:Bool) (hb:zs[k]? = some b)=>h4.cell k b hb);have HTH:=hide (fun (k:Nat) (t:Th) (ht:ts[k]? = some t)=>h2.cells k t ht);rw [hbs] at HOP |-;rw [hzs] at HUP |-;have HZL:=hide hzs;have HOK:=hide hok;have HTO:=hide htho;clear hok htho h1 h2 h3 h4 hbs hzs;have BX0:Below w.heap.size w (w.alloc (.cells #[.int .i64 (N:Int),.slice a1 ls.length c1,.slice a2 ts.length c2] 27)):=(YAC _ _).alloc (YA _) _;have hx0:(w.alloc (.cells #[.int .i64 (N:Int),.slice a1 ls.length c1,.slice a2 ts.length c2] 27)).heap[w.heap.size]? = some (.cells #[.int .i64 (N:Int),.slice a1 ls.length c1,.slice a2 ts.length c2] 27):=YAE w _;obtain⟨w0,hw0⟩:∃ W,W=w.alloc (.cells #[.int .i64 (N:Int),.slice a1 ls.length c1,.slice a2 ts.length c2] 27):=⟨_,rfl⟩;rw [<-hw0] at BX0 hx0;have LIT:=ZcR w0 w.heap.size BX0.size;have BX1:Below w.heap.size w (w0.alloc (.cells #[] 37)):=BX0.alloc BX0.size _;have hx1:(w0.alloc (.cells #[] 37)).heap[w.heap.size]? = some (.cells #[.int .i64 (N:Int),.slice a1 ls.length c1,.slice a2 ts.length c2] 27):=by rw [YAH _ _ _ (Zab hx0)];exact hx0
 have e0:=Zaa hx1 0;have e1:=Zaa hx1 1;have e2:=Zaa hx1 2;simp at e0 e1 e2;have HLIT:=hide LIT;have HX1:=hide hx1;clear LIT BX0 hx0 hx1;subst hw0
 go_enter Tryz.func7,Tryz.ntmps7
 go_wp2_with fail
 refine (HNO.out _ BX1).mono ?_;rintro e w2 ⟨rfl,b2⟩;rw [HOK.out];have hx2:=(b2.block _ (Zab HX1.out)).trans HX1.out;have B2:Below w.heap.size w w2:=BX1.trans (b2.mono BX1.size);have HS2:=hide ((HLIT.out.below b2 (YA _)).in.wide b2.size);have e0:=Zaa hx2 0;have e1:=Zaa hx2 1;have e2:=Zaa hx2 2;simp at e0 e1 e2;have HX2:=hide hx2;clear b2 HLIT HX1 hx2 BX1 HNO;go_wp2
 go_loopw [9,8] (fun i o wr=>∃ (k:Nat) (x:Value) (qs:List RP),k<=N/\i=.int .i64 ((k:Int)+1)/\o=x/\RecsIn wr wr.heap.size x qs/\Hid (fsts qs=idA ls bs zs N k)/\tot qs<=21*k/\Below w2.heap.size w2 wr) (fun i _ _=>8-(intOf i).toNat)
 case atStart=>exact ⟨0,_,[],by omega,rfl,rfl,by have h:=HS2.out;simpa using h,hide (by simp [fsts,idA]),by simp [tot],YAC _ _⟩
 case round=>
  obtain⟨k,x,qs,hk,rfl,rfl,hin,HF,htq,hnx⟩:=hrel;clear HS2 e0 e1 e2;obtain⟨xa,xc,rfl⟩:=Zac hin.row;have hsz:=hnx.size;have BR:Below w.heap.size w wr:=B2.trans (hnx.mono B2.size);have hxr:=(hnx.block _ (Zab HX2.out)).trans HX2.out;have e0:=Zaa hxr 0;have e1:=Zaa hxr 1;have e2:=Zaa hxr 2;simp at e0 e1 e2;have HXR:=hide hxr;have HIN:=hide hin;clear hxr hin;by_cases hlt:k<N
  ·obtain ⟨ub,hub⟩:∃ b,zs[k]? = some b:=⟨zs[k]'(by have:=HZL.out;omega),YAA _⟩;have hkn:(k:Int)+1<=(N:Int):=by omega
   go_wp2_with fail
   refine (HAR.out ((k:Int)+1) _ BR).mono ?_;rintro e w3 ⟨ua,rfl,oa,b3⟩;have hal:=Zco ls ((k:Int)+1);have HAU:=hide (idA_up (ls:=ls) (bs:=bs) (N:=N) (zs:=zs) (k:=k));have HAD:=hide (Zqo (ls:=ls) (bs:=bs) (N:=N) (zs:=zs) (k:=k));obtain⟨al,HAL⟩:∃ al,Hid (al=Zas ls ((k:Int)+1)):=⟨_,hide rfl⟩;rw [<-HAL.out] at oa hal HAU;obtain⟨la,lc,rfl⟩:=Zac oa;have hop:ZaI w3 (.slice la al.length lc) al w3.heap.size:=Zam (by rw [Zb7];exact oa);have HHO:=hide hop;have B3:Below w.heap.size w w3:=BR.trans (b3.mono BR.size);have hx3:=(b3.block _ (Zab HXR.out)).trans HXR.out;have e0:=Zaa hx3 0;have e1:=Zaa hx3 1;have e2:=Zaa hx3 2;simp at e0 e1 e2;have HX3:=hide hx3;have HI3:=hide ((HIN.out.below b3 (YA _)).wide b3.size);have B23:Below w2.heap.size w2 w3:=hnx.trans (b3.mono hsz);have HUB:=hide hub;clear oa hop hx3 b3 HXR HIN hub;go_wp2
   go_loopw [11,8] (fun i o wr=>∃ (j:Nat) (x:Value) (ps:List RP),j<=al.length/\i=.int .i64 (j:Int)/\o=x/\RecsIn wr wr.heap.size x ps/\Hid (fsts ps=ZeJ ls bs zs N ((k:Int)+1) al (fsts qs) j)/\tot ps<=21*k+7*j/\Below w3.heap.size w3 wr/\(ub=false->j=0)) (fun i _ _=>8-(intOf i).toNat)
   case atStart=>exact ⟨0,_,qs,by omega,rfl,rfl,HI3.out,hide (by simp [ZeJ]),by omega,YAC _ _,fun _=>rfl⟩
   case round=>
    rename World=>wa
    obtain⟨j,x,ps,hj,rfl,rfl,hin,HG,htp,hnx2,hj0⟩:=hrel;clear HI3 e0 e1 e2;obtain⟨xa,xc,rfl⟩:=Zac hin.row;have hsz2:=hnx2.size;have BW:Below w.heap.size w wa:=B3.trans (hnx2.mono B3.size);have hxa:=(hnx2.block _ (Zab HX3.out)).trans HX3.out;have e0:=Zaa hxa 0;have e1:=Zaa hxa 1;have e2:=Zaa hxa 2;simp at e0 e1 e2;have HXA:=hide hxa;have HIN:=hide hin;clear hxa hin;obtain⟨ug,uo,uc,huv,hug,ucell⟩:=HUP.out k ub HUB.out;cases huv;replace ucell:=(BW.cell hug).trans ucell;by_cases hlj:j<al.length
    ·obtain ⟨ar,har⟩:∃ a,al[j]? = some a:=⟨al[j],YAA hlj⟩;obtain⟨ag,ao,ac,hav,hag,acell⟩:=HHO.out.cell j ar har;cases hav;replace acell:=(hnx2.cell hag).trans acell;have hji:(j:Int)<(al.length:Int):=by omega
     have hj00:(0:Int)<=(j:Int):=by omega
     have HAT:=hide har;clear har;cases ub
     ·have hj1:=hj0 rfl;have HFN:=hide (show fsts ps=idA ls bs zs N (k+1) by
       have h:=HG.out;rw [hj1] at h;rw [h,HAD.out HUB.out, <-HF.out];rfl)
      have htn:tot ps<=21*(k+1):=by omega
      have HBN:=hide (B23.trans (hnx2.mono B23.size));go_wp2;go_roundw
      case rel=>exact ⟨k+1,_,ps,by omega,by go_num,rfl,HIN.out,HFN,htn,HBN.out⟩
      case measure=>simp [intOf];omega
     ·have HST:=hide (ZhI.start wa ((k:Int)+1) ar);have BST:=(YAC wa.heap.size wa).alloc (YA _) (.cells #[.int .i64 ar,.int .i64 1,.int .i64 ((k:Int)+1),.int .i64 0,.int .i64 1,.slice none 0 0,.int .i64 0,.bool false] 37);have HBS:=hide BST;clear BST;go_wp2
      go_loopw [13] (fun i wr=>∃ (m:Nat) (nv:Value),m<=N/\i=.int .i64 ((m:Int)+1)/\ZhI wr wa.heap.size nv (Zb2 ((k:Int)+1) ar (ZbI ls bs zs ((k:Int)+1) ar m))/\Below wa.heap.size wa wr) (fun i _=>8-(intOf i).toNat)
      case atStart=>exact ⟨0,_,by omega,rfl,HST.out,HBS.out⟩
      case round=>
       obtain⟨m,nv,hm,rfl,hst,hnx3⟩:=hrel;clear HST HBS e0 e1 e2 ucell;have hsz3:=hnx3.size;have BR3:Below w.heap.size w wr:=BW.trans (hnx3.mono BW.size);have hxc:=(hnx3.block _ (Zab HXA.out)).trans HXA.out;have e0:=Zaa hxc 0;have e1:=Zaa hxc 1;have e2:=Zaa hxc 2;simp at e0 e1 e2;have hxlt:=Zab hxc;have HXC:=hide hxc;clear hxc;replace acell:=(hnx3.cell (by show ag<wa.heap.size;omega)).trans acell;have hagr:ag<wr.heap.size:=by omega
       have hnl:=Zkp ls bs zs ((k:Int)+1) ar m;by_cases hlm:m<N
       ·obtain ⟨vb,hvb⟩:∃ b,zs[m]? = some b:=⟨zs[m]'(by have:=HZL.out;omega),YAA _⟩;obtain⟨vg,vo,vc,hvv,hvg,vcell⟩:=HUP.out m vb hvb;cases hvv;have hmn:(m:Int)+1<=(N:Int):=by omega
        have HVB:=hide hvb;have HNS:=hide hst;have BD:Below w.heap.size w wr.drew:=BR3.drew;clear hvb hst;go_wp2
        go_region_held3 (fun W=>W.cell? ⟨w.heap.size,0,none⟩=some (.int .i64 (N:Int))/\W.cell? ⟨w.heap.size,1,none⟩=some (.slice a1 ls.length c1)/\W.cell? ⟨w.heap.size,2,none⟩=some (.slice a2 ts.length c2)/\W.cell? ⟨ag,ao+j,none⟩=some (.int .i64 ar)) (first | (refine ⟨?_,?_,?_,?_⟩ <;> (rw [b5.cell (by assumption)];assumption)) | go_keep) (first | (go_at_call 23;refine (HOP.out ((k:Int)+1) ((m:Int)+1) ar _ BD).mono ?_;rintro e w5 ⟨rfl,b5⟩))
        have B5:Below wr.heap.size wr w5:=(YAC wr.heap.size wr).drew.trans b5;have BW5:Below w.heap.size w w5:=BR3.trans (B5.mono BR3.size);have BA5:Below wa.heap.size wa w5:=hnx3.trans (B5.mono hsz3);have hz5:=B5.size;have hst5:=HNS.out.below B5;obtain⟨na,nc,hnv⟩:=Zac hst5.2;subst hnv;have r5:=Zaa hst5.1 5;simp [recC] at r5;have hzlt:=Zab hst5.1;have f5:=Zae hst5.1;replace vcell:=(BW5.cell hvg).trans vcell;have hvgr:ug<w5.heap.size:=by have:=BW5.size;omega
        clear b5 e0 e1 e2 acell HNS BD hvg;obtain⟨q,HQ⟩:∃ q,Hid (q=Zcw ls bs ((k:Int)+1) ((m:Int)+1) ar):=⟨_,hide rfl⟩;rw [<-HQ.out];have HS5:=hide hst5;have HB5:=hide BA5;clear hst5 B5 BA5 BW5;have hrow:(Zb2 ((k:Int)+1) ar (ZbI ls bs zs ((k:Int)+1) ar m)).near.length=(ZbI ls bs zs ((k:Int)+1) ar m).length:=rfl;rw [hrow] at r5;obtain⟨L,HL⟩:∃ L,Hid (L=ZbI ls bs zs ((k:Int)+1) ar m):=⟨_,hide rfl⟩;rw [<-HL.out] at r5 hnl HS5 hrow;by_cases h0:0<q
        ·cases vb
         ·have HNN:=hide (show ZbI ls bs zs ((k:Int)+1) ar (m+1)=L by rw [HL.out];exact Zmr HQ.out HVB.out (.inr rfl));go_wp2;go_roundw
          case rel=>exact ⟨m+1,_,by omega,by go_num,by rw [HNN.out];exact HS5.out,HB5.out⟩
          case measure=>simp [intOf];omega
         ·have HNN:=hide (show ZbI ls bs zs ((k:Int)+1) ar (m+1)=L++[⟨(m:Int)+1,q⟩] by rw [HL.out];exact ZoV HQ.out h0 HVB.out);have OW:=hide HS5.out.2;have hwb:wa.heap.size+1<=(w5.alloc (.cells (nrE ⟨(m:Int)+1,q⟩).toArray 62)).heap.size:=by simp;omega
          go_wp2_with (first
           | (at_builtin;refine ZaZ Zjj (by omega) (by omega) _ rfl _ _ 35 rfl (wa.heap.size+1) 62 Tryz.underlying35 (nrV nr0) rfl Tryz.infoNr _ L ⟨(m:Int)+1,q⟩ (ZqF _) rfl (OW.out.alloc _) ⟨w5.heap.size,0,none⟩ 1 rfl (Zan (cs:=nrE ⟨(m:Int)+1,q⟩)) (by omega) hwb ?_))
          intro v' w7 hown' hgrow hblk;obtain⟨va,vc,rfl⟩:=Zac hown';have hzz:wa.heap.size<w5.heap.size:=hzlt;have hb7:w7.heap[wa.heap.size]? = some (.cells (recC (Zb2 ((k:Int)+1) ar L) (.slice na L.length nc)) 37):=by
           rw [hgrow.block _ (by simp;omega) (fun e=>by have:=(OW.out.lt _ e.symm).1;omega),YAH _ _ _ hzz];exact HS5.out.1
          have f7:=Zae hb7;have s5:=Zaa hb7 5;simp [recC] at s5;have h7lt:=Zab hb7;have PS:=hide (HS5.out.push (y:=Zb2 ((k:Int)+1) ar (L++[⟨(m:Int)+1,q⟩])) hgrow (fun _=>rfl) (by simpa [Zb2] using hown'));have PB:=hide (((HB5.out.alloc HB5.out.size _).grown hgrow (by have:=HB5.out.size;simp;omega) (fun i hi=>by have:=(OW.out.lt i hi).1;omega)).setCell (p:=⟨wa.heap.size,5,none⟩) (YA _) (.slice va (L.length+1) vc));clear hown' hgrow hblk HS5 HB5 OW hb7 r5 f5;go_wp2;go_roundw
          case rel=>exact ⟨m+1,_,by omega,by go_num,by rw [HNN.out];exact PS.out,PB.out⟩
          case measure=>simp [intOf];omega
        ·have HNN:=hide (show ZbI ls bs zs ((k:Int)+1) ar (m+1)=L by rw [HL.out];exact Zmr HQ.out HVB.out (.inl h0));go_wp2;go_roundw
         case rel=>exact ⟨m+1,_,by omega,by go_num,by rw [HNN.out];exact HS5.out,HB5.out⟩
         case measure=>simp [intOf];omega
       ·have hmn:¬(m:Int)+1<=(N:Int):=by omega
        have hmN:m=N:=by omega
        have HMN:=hide (show ZbI ls bs zs ((k:Int)+1) ar m=ZbI ls bs zs ((k:Int)+1) ar N by rw [hmN]);clear hmN;obtain⟨L,HL⟩:∃ L,Hid (L=ZbI ls bs zs ((k:Int)+1) ar m):=⟨_,hide rfl⟩;rw [<-HL.out] at hst hnl;obtain⟨na,nc,hnv⟩:=Zac hst.2;subst hnv;have r0:=Zaa hst.1 0;have r1:=Zaa hst.1 1;have r2:=Zaa hst.1 2;have r3:=Zaa hst.1 3;have r4:=Zaa hst.1 4;have r5:=Zaa hst.1 5;have r6:=Zaa hst.1 6;have r7:=Zaa hst.1 7;simp [recC,Zb2] at r0 r1 r2 r3 r4 r5 r6 r7;have hno:ZaF wr 0 wr.heap.size (Zb2 ((k:Int)+1) ar L,.slice na L.length nc):=⟨Zaf hst.2 (Nat.zero_le _),fun i hi=>(hst.2.lt i hi).2⟩;have htt:=ZjC ps (Zb2 ((k:Int)+1) ar L,.slice na L.length nc);have hne:(Zb2 ((k:Int)+1) ar L).near.length=L.length:=rfl;have HP:=hide (Zjq (.slice xa ps.length xc) ps wr.heap.size (Zb2 ((k:Int)+1) ar L,.slice na L.length nc) wr ((HIN.out.below hnx3 (YA _)).wide hnx3.size) (YA _) (by omega) hno);have HF2:=hide (show fsts (putL ps (Zb2 ((k:Int)+1) ar L,.slice na L.length nc))=ZeJ ls bs zs N ((k:Int)+1) al (fsts qs) (j+1) by
         rw [ZfT,Zf5 HAT.out, <-HG.out,HL.out,HMN.out])
        have ht2:tot (putL ps (Zb2 ((k:Int)+1) ar L,.slice na L.length nc))<=21*k+7*(j+1):=by simp only [hne] at htt;omega
        obtain⟨Q,hQ⟩:∃ Q,Q=putL ps (Zb2 ((k:Int)+1) ar L,.slice na L.length nc):=⟨_,rfl⟩;rw [<-hQ] at HP HF2 ht2;unfold recC Zb2 at HP;simp only [] at HP;have HB3:=hide (hnx2.trans (hnx3.mono hsz2));clear hno hst htt hQ acell
        go_wp2_with fail
        refine HP.out.mono ?_;rintro e w6 ⟨o,rfl,ho,b6⟩;obtain⟨oa,oc,rfl⟩:=Zac ho.row;have HO:=hide ho;have HB6:=hide (HB3.out.trans (b6.mono HB3.out.size));clear ho b6 HP HB3 r0 r1 r2 r3 r4 r5 r6 r7;go_wp2;go_roundw
        case rel=>exact ⟨j+1,_,Q,by omega,by go_num,rfl,HO.out,HF2,ht2,HB6.out,fun h=>by simp at h⟩
        case measure=>simp [intOf];omega
    ·have hji:¬(j:Int)<(al.length:Int):=by omega
     have HFN:=hide (show fsts ps=idA ls bs zs N (k+1) by
      have h:=HG.out;have hjl:j=al.length:=by omega
      cases ub
      ·rw [hj0 rfl] at h;rw [h,HAD.out HUB.out, <-HF.out];rfl
      ·rw [hjl] at h;rw [h,HAU.out HUB.out, <-HF.out,HAL.out])
     have htn:tot ps<=21*(k+1):=by omega
     have HBN:=hide (B23.trans (hnx2.mono B23.size));clear ucell hug;go_wp2;go_roundw
     case rel=>exact ⟨k+1,_,ps,by omega,by go_num,rfl,HIN.out,HFN,htn,HBN.out⟩
     case measure=>simp [intOf];omega
  ·have hkn:¬(k:Int)+1<=(N:Int):=by omega
   have hkN:k=N:=by omega
   have HF1:=hide (show fsts qs=idA ls bs zs N N by rw [HF.out,hkN]);have htq1:tot qs<=126:=by omega
   clear HF htq hkN
   rename World=>wb
   go_wp2
   go_loopw [15,8] (fun i o wr=>∃ (j:Nat) (x:Value) (ps:List RP),j<=ts.length/\i=.int .i64 (j:Int)/\o=x/\RecsIn wr wr.heap.size x ps/\Hid (fsts ps=idB ts zs (idA ls bs zs N N) j)/\tot ps<=126+j/\Below wb.heap.size wb wr) (fun i _ _=>8-(intOf i).toNat)
   case atStart=>exact ⟨0,_,qs,by omega,rfl,rfl,HIN.out,hide (by rw [HF1.out];rfl),by omega,YAC _ _⟩
   case round=>
    obtain⟨j,x,ps,hj,rfl,rfl,hin,HG,htp,hnx2⟩:=hrel;clear HIN e0 e1 e2;obtain⟨ya,yc,rfl⟩:=Zac hin.row;have hsz2:=hnx2.size;have BW:Below w.heap.size w wr:=BR.trans (hnx2.mono BR.size);have hxa:=(hnx2.block _ (Zab HXR.out)).trans HXR.out;have e0:=Zaa hxa 0;have e1:=Zaa hxa 1;have e2:=Zaa hxa 2;simp at e0 e1 e2;have HXA:=hide hxa;have HI2:=hide hin;clear hxa hin;by_cases hlj:j<ts.length
    ·obtain ⟨th,hth⟩:∃ a,ts[j]? = some a:=⟨ts[j],YAA hlj⟩;obtain⟨tg,to',tc,htv,htg,d0,d1,d2,d3⟩:=HTH.out j th hth;cases htv;obtain⟨ho1,ho2⟩:=HTO.out th (YAG hth);obtain⟨m,hm⟩:∃ m:Nat,th.o=(m:Int)+1:=⟨(th.o-1).toNat,by omega⟩;obtain⟨ub,hub⟩:∃ b,zs[m]? = some b:=⟨zs[m]'(by have:=HZL.out;omega),YAA _⟩;obtain⟨ug,uo,uc,huv,hug,ucell⟩:=HUP.out m ub hub;cases huv;replace ucell:=(BW.cell hug).trans ucell;rw [<-BW.cell (p:=⟨tg,to'+j*4,none⟩) htg,hm] at d0;replace d1:=(BW.cell htg).trans d1;replace d2:=(BW.cell htg).trans d2;replace d3:=(BW.cell htg).trans d3;have hmN:(m:Int)<(N:Int):=by omega
     have hji:(j:Int)<(ts.length:Int):=by omega
     have hj00:(0:Int)<=(j:Int):=by omega
     have hugr:ug<wr.heap.size:=by have:=BW.size;omega
     have HBA:=hide ((YAC wr.heap.size wr).alloc (YA _) (.cells #[.int .i64 ((m:Int)+1),.int .i64 th.k,.int .i64 th.c,.bool th.f] 65));cases ub
     ·have HGN:=hide (show fsts ps=idB ts zs (idA ls bs zs N N) (j+1) by rw [HG.out,Zqp hth hm hub]);have HI3:=hide ((HI2.out.below HBA.out (YA _)).wide HBA.out.size);have HBN:=hide (hnx2.trans (HBA.out.mono hsz2));clear hub hth hm;go_wp2;go_roundw
      case rel=>exact ⟨j+1,_,ps,by omega,by go_num,rfl,HI3.out,HGN,by omega,HBN.out⟩
      case measure=>simp [intOf];omega
     ·have htt:=ZjC ps (Zb6 th,.slice none 0 0);have HP:=hide (fun W (b:Below wr.heap.size wr W)=>Zjq (.slice ya ps.length yc) ps W.heap.size (Zb6 th,.slice none 0 0) W ((HI2.out.below b (YA _)).wide b.size) (YA _) (by omega) ⟨YAZ _ _ _ _,fun i hi=>by simp [Value.ownBlock] at hi⟩);have HGN:=hide (show fsts (putL ps (Zb6 th,.slice none 0 0))=idB ts zs (idA ls bs zs N N) (j+1) by rw [ZfT,idB_up hth hm hub, <-HG.out]);have ht2:tot (putL ps (Zb6 th,.slice none 0 0))<=126+(j+1):=by
       have h0:(Zb6 th,Value.slice none 0 0).1.near.length=0:=rfl;rw [h0] at htt;omega
      obtain⟨Q,hQ⟩:∃ Q,Q=putL ps (Zb6 th,.slice none 0 0):=⟨_,rfl⟩;rw [<-hQ] at HP HGN ht2;unfold recC Zb6 at HP;simp only [hm] at HP;have HP1:=hide (HP.out _ HBA.out);clear hub hth hm htt hQ HP
      go_wp2_with fail
      refine HP1.out.mono ?_;rintro e w6 ⟨o,rfl,ho,b6⟩;obtain⟨oa,oc,rfl⟩:=Zac ho.row;have HO:=hide ho;have HBN0:=hnx2.trans (HBA.out.mono hsz2);have HB6:=hide (HBN0.trans (b6.mono HBN0.size));clear ho b6 HP1 HBN0;go_wp2;go_roundw
      case rel=>exact ⟨j+1,_,Q,by omega,by go_num,rfl,HO.out,HGN,ht2,HB6.out⟩
      case measure=>simp [intOf];omega
    ·have hji:¬(j:Int)<(ts.length:Int):=by omega
     have hjN:j=ts.length:=by omega
     have HG1:=hide (show fsts ps=idB ts zs (idA ls bs zs N N) ts.length by rw [HG.out,hjN]);have htp1:tot ps<=130:=by omega
     clear HG htp hjN HTH HTO;obtain⟨X,HX⟩:∃ X,Hid (X=idB ts zs (idA ls bs zs N N) ts.length):=⟨_,hide rfl⟩;rw [<-HX.out] at HG1
     rename World=>wc
     go_wp2
     go_loopw [17,8] (fun i o wr=>∃ (r:Nat) (x:Value) (os:List RP),r<=3/\i=.int .i64 (r:Int)/\o=x/\RecsIn wr wr.heap.size x os/\Hid (fsts os=idR ls zs N X r)/\tot os<=130+108*r/\Below wc.heap.size wc wr) (fun i _ _=>8-(intOf i).toNat)
     case atStart=>exact ⟨0,_,ps,by omega,rfl,rfl,HI2.out,hide (by rw [HG1.out];rfl),by omega,YAC _ _⟩
     case round=>
      rename World=>wd
      obtain⟨r,x,os,hr,rfl,rfl,hin,HH,hto,hnx3⟩:=hrel;clear HI2 e0 e1 e2;obtain⟨xo,xp,rfl⟩:=Zac hin.row;have hsz3:=hnx3.size;have BD:Below w.heap.size w wd:=BW.trans (hnx3.mono BW.size);have hxd:=(hnx3.block _ (Zab HXA.out)).trans HXA.out;have e0:=Zaa hxd 0;have e1:=Zaa hxd 1;have e2:=Zaa hxd 2;simp at e0 e1 e2;have HXD:=hide hxd;have HI3:=hide hin;clear hxd hin;by_cases hlr:r<3
      ·have hri:(r:Int)<3:=by omega
       have HRN:=hide (show idR ls zs N X (r+1)=idC ls zs (idR ls zs N X r) N from rfl);rw [<-HH.out] at HRN;clear HH;go_wp2
       go_loopw [18,8] (fun i o wr=>∃ (k:Nat) (x:Value) (us:List RP),k<=N/\i=.int .i64 ((k:Int)+1)/\o=x/\RecsIn wr wr.heap.size x us/\Hid (fsts us=idC ls zs (fsts os) k)/\tot us<=130+108*r+18*k/\Below wd.heap.size wd wr) (fun i _ _=>8-(intOf i).toNat)
       case atStart=>exact ⟨0,_,os,by omega,rfl,rfl,HI3.out,hide (by rfl),by omega,YAC _ _⟩
       case round=>
        rename World=>we
        obtain⟨kk,x,us,hkk,rfl,rfl,hin,HJ,htu,hnx4⟩:=hrel;clear HI3 e0 e1 e2;obtain⟨xu,xv,rfl⟩:=Zac hin.row;have hsz4:=hnx4.size;have BE:Below w.heap.size w we:=BD.trans (hnx4.mono BD.size);have hxe:=(hnx4.block _ (Zab HXD.out)).trans HXD.out;have e0:=Zaa hxe 0;have e1:=Zaa hxe 1;have e2:=Zaa hxe 2;simp at e0 e1 e2;have HXE:=hide hxe;have HI4:=hide hin;clear hxe hin;by_cases hlk:kk<N
        ·obtain ⟨ub,hub⟩:∃ b,zs[kk]? = some b:=⟨zs[kk]'(by have:=HZL.out;omega),YAA _⟩;obtain⟨ug,uo,uc,huv,hug,ucell⟩:=HUP.out kk ub hub;cases huv;replace ucell:=(BE.cell hug).trans ucell;have hkn2:(kk:Int)+1<=(N:Int):=by omega
         have HUB:=hide hub;clear hub;cases ub
         ·have HJN:=hide (show fsts us=idC ls zs (fsts os) (kk+1) by rw [HJ.out,Zrz HUB.out (.inl rfl)]);go_wp2;go_roundw
          case rel=>exact ⟨kk+1,_,us,by omega,by go_num,rfl,HI4.out,HJN,by omega,hnx4⟩
          case measure=>simp [intOf];omega
         ·go_wp2_with fail
          refine (HBO.out ((kk:Int)+1) _ BE).mono ?_;rintro e w7 ⟨rfl,b7⟩;have hx7:=(b7.block _ (Zab HXE.out)).trans HXE.out;have e0:=Zaa hx7 0;have e1:=Zaa hx7 1;have e2:=Zaa hx7 2;simp at e0 e1 e2;have HX7:=hide hx7;have B7:Below w.heap.size w w7:=BE.trans (b7.mono BE.size);have HB7:=hide (hnx4.trans (b7.mono hsz4));have HI7:=hide ((HI4.out.below b7 (YA _)).wide b7.size);clear hx7 b7 HXE HI4 hnx4 BE ucell;obtain⟨bb,HBB⟩:∃ b,Hid (b=ZeW ls ((kk:Int)+1)):=⟨_,hide rfl⟩;rw [<-HBB.out];cases bb
          ·have HJN:=hide (show fsts us=idC ls zs (fsts os) (kk+1) by rw [HJ.out,Zrz HUB.out (.inr HBB.out.symm)]);go_wp2;go_roundw
           case rel=>exact ⟨kk+1,_,us,by omega,by go_num,rfl,HI7.out,HJN,by omega,HB7.out⟩
           case measure=>simp [intOf];omega
          ·go_wp2_with fail
           refine (HAR.out ((kk:Int)+1) _ B7).mono ?_;rintro e w8 ⟨ua,rfl,oa,b8⟩;have hal:=Zco ls ((kk:Int)+1);have HAU:=hide (ZrV (ls:=ls) (zs:=zs) (xs:=fsts os) HUB.out HBB.out.symm);obtain⟨al,HAL⟩:∃ al,Hid (al=Zas ls ((kk:Int)+1)):=⟨_,hide rfl⟩;rw [<-HAL.out] at oa hal HAU;obtain⟨la,lc,rfl⟩:=Zac oa;have hop:ZaI w8 (.slice la al.length lc) al w8.heap.size:=Zam (by rw [Zb7];exact oa);have HB8:=hide (HB7.out.trans (b8.mono HB7.out.size));have HP:=hide (Zqx (.slice xu us.length xv) (.slice la al.length lc) us al w8.heap.size ((kk:Int)+1) w8 ((HI7.out.below b8 (YA _)).wide b8.size) hop (YA _) (by omega) (by omega));clear oa hop b8 HI7 HB7 HAL B7
           go_wp2_with fail
           refine HP.out.mono ?_;rintro e w9 ⟨o,ns,rfl,hns,ho,htn,b9⟩;obtain⟨oa,oc,rfl⟩:=Zac ho.row;have HJN:=hide (show fsts ns=idC ls zs (fsts os) (kk+1) by rw [hns,HJ.out,HAU.out]);have HO:=hide ho;have HB9:=hide (HB8.out.trans (b9.mono HB8.out.size));clear ho b9 HP HB8 hns e0 e1 e2;go_wp2;go_roundw
           case rel=>exact ⟨kk+1,_,ns,by omega,by go_num,rfl,HO.out,HJN,by omega,HB9.out⟩
           case measure=>simp [intOf];omega
        ·have hkn2:¬(kk:Int)+1<=(N:Int):=by omega
         have hkN:kk=N:=by omega
         have HRF:=hide (show fsts us=idR ls zs N X (r+1) by rw [HRN.out,HJ.out,hkN]);have htf:tot us<=130+108*(r+1):=by omega
         have HBF:=hide (hnx3.trans (hnx4.mono hsz3));clear hkN;go_wp2;go_roundw
         case rel=>exact ⟨r+1,_,us,by omega,by go_num,rfl,HI4.out,HRF,htf,HBF.out⟩
         case measure=>simp [intOf];omega
      ·have hri:¬(r:Int)<3:=by omega
       have hr3:r=3:=by omega
       have HFI:=hide (show fsts os=ZcI ls ts bs zs N by unfold ZcI;rw [HH.out,hr3,HX.out]);have HC:=hide (Zj2 (.slice xo os.length xp) os wd.heap.size wd HI3.out (YA _) (by omega));have HBD:=hide BD;clear hr3 HH
       go_wp2_with fail
       refine HC.out.mono ?_;rintro e w9 ⟨o,ns,rfl,hns,ho,b9⟩;have HO:=hide (ho.wide HBD.out.size (YA _));have HNS:=hide (hns.trans HFI.out);have HNT:=hide (show tot ns<=500 by have h:tot ns=tot os:=Zsl hns;omega);have HB9:=hide (HBD.out.trans (b9.mono HBD.out.size));clear ho hns b9 HC e0 e1 e2;go_wp2
       (try simp only [Exit.inBlock,Exit.then])
       refine bodyPost_ret (v:=.tuple #[o,.bool true]) (by simp [results,Tryz.results7,go_sem]) rfl ?_
       first
        | exact ⟨_,ns,rfl,HNS.out,HNT.out,HO.out,HB9.out⟩
        | exact ⟨_,rfl,ns,HNS.out,HNT.out,HO.out,HB9.out⟩
        | exact ⟨_,⟨rfl,rfl⟩,ns,HNS.out,HNT.out,HO.out,HB9.out⟩
def OffL (bs:List QP):Prop:=∀ b∈bs,OffR b.1
theorem ZkV {p q:QP}(h:ZdX p q):ZdX q p:=fun k hk e=>h k e hk
theorem ZmX {a b cs:List RtD}(h:ZcP a cs)(hp:∀ x,x∈a↔x∈b):ZcP b cs:=by
 unfold ZcP at *;exact h.congr (fun to d=>⟨fun ⟨q,h1,h2⟩=>⟨q,(hp q).1 h1,h2⟩,fun ⟨q,h1,h2⟩=>⟨q,(hp q).2 h1,h2⟩⟩)
theorem Zc6 {W:World}{base g n cap:Nat}{ps:List QP}{i:Nat}{p:QP}(h:W.ownsRow base 42 6 (.slice (some ⟨g,0,none⟩) n cap) n (flat encQ ps))(hn:ps.length=n)(hp:ps[i]? = some p)(r:Nat)(hr:r<6):W.cell? ⟨g,i*6+r,none⟩=(encQ p)[r]? /\ W.frozen? ⟨g,i*6+r,none⟩=false:=by
 obtain⟨hi,_⟩:=YAD.1 hp;rcases h.2 with ⟨e0,_⟩ | ⟨g',cap',cur,e0,hb,hg,hnn,hm,hs,ht⟩
 ·cases e0
 ·injection e0 with e1 _ e3;injection e1 with e1;injection e1 with e1;subst e1;refine⟨?_,by simp [World.frozen?,hg]⟩;have h1:=Zeq Zcg ps i r p hp hr;rw [<-ht,List.getElem?_take,if_pos (by omega),Array.getElem?_toList] at h1;rw [<-h1];simp [World.cell?,hg]
theorem ZqW {W:World}{base n:Nat}{v:Value}{xs:List Value}(h:W.ownsRow base 42 6 v (n+1) xs):∃ g cap,v=.slice (some ⟨g,0,none⟩) (n+1) cap/\g<W.heap.size:=by
 rcases h.2 with ⟨_,e0⟩ | ⟨g,cap,cur,e0,hb,hg,_⟩
 ·omega
 ·exact ⟨g,cap,e0,Zab hg⟩
theorem Zp0 (v:Value)(os:List QP)(B:Nat)(w:World)(h:RtsOwn w B w.heap.size v os)(hB:B<=w.heap.size)(hof:∀ q∈os,OffR q.1)(hn:os.length<=1000):
  Calls Tryz.prog 98 #[v] w fun e w'=>∃ x bs,e=.returned x/\ZcP (Za7 os) (Za7 bs)/\OffL bs/\RtsOwn w' B w'.heap.size x bs/\Below B w w':=by
 have HSO:=hide (ZpB v os B w h.row (fun q hq=>by obtain ⟨a,c,e⟩:=Zac (h.nears q hq).1;exact⟨a,_,c,e⟩) (by omega));obtain⟨a1,c1,rfl⟩:=Zac h.row;have HH:=hide h;have HOF:=hide hof;clear h hof
 go_enter Tryz.func98,Tryz.ntmps98
 go_wp2_with fail
 refine HSO.out.mono ?_;rintro e w2 ⟨rfl,qs,hperm,hsort,hrow2,hg2⟩;have hql:qs.length=os.length:=hperm.length_eq;have hop2:∀ q∈qs,Zbv w2 B w.heap.size q:=fun q hq=>by
  have h1:=HH.out.nears q (hperm.mem_iff.1 hq);exact⟨Zal h1.1 (fun j hj=>hg2.block j (h1.1.lt j hj).2 (Zfa h1 HH.out.row j hj)),h1.2⟩
 have H2:RtsOwn w2 B w2.heap.size (.slice a1 os.length c1) qs:=⟨hrow2,fun k hk=>(hrow2.lt k hk).2,fun q hq=>(hop2 q hq).wide (YA _) hg2.size,(hperm.pairwise_iff ZkV).2 HH.out.apart⟩;have hof2:∀ q∈qs,OffR q.1:=fun q hq=>HOF.out q (hperm.mem_iff.1 hq);have hB2:B<=w2.heap.size:=YAK hB hg2.size;have B2:Below B w w2:=(YAC B w).grown hg2 hB (fun k hk=>(HH.out.row.lt k hk).1);have HFIN:=hide (show ∀ bs,ZcP (Za7 qs) (Za7 bs)->ZcP (Za7 os) (Za7 bs) from fun bs hb=>ZmX hb (fun x=>by unfold Za7;exact (hperm.map _).mem_iff));have HH2:=hide H2;have HO2:=hide hof2;have HS2:=hide hsort;have HB2:=hide B2;have HQT:=hide (show ∀ r∈qs,∀ j,r.2.ownBlock=some j->j<w2.heap.size from fun r hr j hj=>((H2.nears r hr).2 j hj));have HQL:=hide hql;have BI0:BI w2 B w2 qs 0 (.slice none 0 0) []:=⟨⟨YAZ _ _ _ _,fun k hk=>by simp [Value.ownBlock] at hk,by simp,by simp⟩,fun j hj=>by simp [Value.ownBlock] at hj,by unfold ZcP;exact Zct (fun to d ⟨q,hq,_⟩=>by simp [Za7] at hq),by simp,by simp,by simp,YAC _ _⟩;have HB0:=hide BI0;rw [<-hql] at hn;clear HSO HH HOF hperm hsort hrow2 hg2 hop2 H2 hof2 B2 BI0;rw [<-hql];clear hql;go_wp2
 go_loopw [11,3] (fun i o wr=>∃ (k:Nat) (x:Value) (bs:List QP),k<=qs.length/\i=.int .i64 (k:Int)/\o=x/\Hid (BI wr B w2 qs k x bs)) (fun i _ _=>qs.length-(intOf i).toNat)
 case atStart=>exact ⟨0,_,[],by omega,rfl,rfl,HB0⟩
 case round=>
  obtain⟨k,x,bs,hk,rfl,rfl,HBI⟩:=hrel;clear HB0;have hws:=HBI.out.below.size;by_cases hlt:k<qs.length
  ·obtain ⟨q,hq⟩:∃ q,qs[k]? = some q:=⟨qs[k],YAA hlt⟩;have hat2:=HH2.out.at;rw [<-HQL.out] at hat2;obtain⟨bb,off,cp,hve,hbb,c0,c1,c2,c3,c4,c5,_⟩:=hat2.cells k q hq;cases hve;have hqo:=HH2.out.nears q (YAG hq);obtain⟨qa,qc,hqn⟩:=Zac hqo.1;rw [hqn] at c5;replace c0:=(HBI.out.below.cell hbb).trans c0;replace c1:=(HBI.out.below.cell hbb).trans c1;replace c2:=(HBI.out.below.cell hbb).trans c2;replace c3:=(HBI.out.below.cell hbb).trans c3;replace c4:=(HBI.out.below.cell hbb).trans c4;replace c5:=(HBI.out.below.cell hbb).trans c5;have hki:(0:Int)<=(k:Int):=by omega
   have hkj:(k:Int)<(qs.length:Int):=by omega
   have BAL:Below wr.heap.size wr (wr.alloc (.cells #[.bool q.1.thing,.int .i64 q.1.to,.int .i64 q.1.kind,.int .i64 q.1.cost,.int .i64 q.1.far,.slice qa q.1.hops.length qc] 42)):=(YAC _ _).alloc (YA _) _;have hxl:=YAE wr (.cells #[.bool q.1.thing,.int .i64 q.1.to,.int .i64 q.1.kind,.int .i64 q.1.cost,.int .i64 q.1.far,.slice qa q.1.hops.length qc] 42);have hbt:ZcP (Za7 (qs.take k)) (Za7 bs):=HBI.out.best;have HQ:=hide hq;have HQN:=hide hqn;have HQO:=hide ((hqo.keep (W':=wr) (fun j _ h2 _=>HBI.out.below.block j h2)).wide (YA B) hws);have hsl:(wr.alloc (.cells #[.bool q.1.thing,.int .i64 q.1.to,.int .i64 q.1.kind,.int .i64 q.1.cost,.int .i64 q.1.far,.slice qa q.1.hops.length qc] 42)).heap.size=wr.heap.size+1:=by simp
   have HSL:=hide hsl;clear hqo hqn hq hat2 hbt hsl;have hfq:q=(q.1,.slice qa q.1.hops.length qc):=by rw [<-HQN.out]
   have HFQ:=hide hfq;clear hfq;rcases List.eq_nil_or_concat bs with hbs | ⟨b0,b,hbs0⟩
   ·subst hbs;obtain⟨xa,xc,rfl⟩:=Zac HBI.out.own.row;go_wp2
    go_quiet (fail)
    obtain⟨wd,hwd⟩:∃ W,W=(wr.alloc (.cells #[.bool q.1.thing,.int .i64 q.1.to,.int .i64 q.1.kind,.int .i64 q.1.cost,.int .i64 q.1.far,.slice qa q.1.hops.length qc] 42)).drewN nq:=⟨_,rfl⟩;have BD:Below wr.heap.size wr wd:=by rw [hwd];exact Zn6 BAL
    have hxd:wd.heap[wr.heap.size]? = some (.cells #[.bool q.1.thing,.int .i64 q.1.to,.int .i64 q.1.kind,.int .i64 q.1.cost,.int .i64 q.1.far,.slice qa q.1.hops.length qc] 42):=by rw [hwd];exact hxl
    have hsd:wd.heap.size=wr.heap.size+1:=by rw [hwd];exact HSL.out
    rw [<-hwd];clear hwd hxl BAL HSL;have e0:=Zaa hxd 0;have e1:=Zaa hxd 1;have e2:=Zaa hxd 2;have e3:=Zaa hxd 3;have e4:=Zaa hxd 4;have e5:=Zaa hxd 5;simp only [YAd,YAX,YAW] at e0 e1 e2 e3 e4 e5;have HSD:=hide hsd;have BD2:=hide (BD.alloc (by have:=HSD.out;omega) (.cells (encQ (q.1,.slice qa q.1.hops.length qc)).toArray 42));have OW:=hide ((Zad HBI.out.own.row BD (YA _)).alloc (.cells (encQ (q.1,.slice qa q.1.hops.length qc)).toArray 42));have HBW:=hide (YAK (YAK hB2 hws) BD.size);have HLT:=hide (show ∀ c∈Za7 ([]:List QP),c.to<q.1.to from fun c hc=>by simp [Za7] at hc);clear hsd hxd BD
    go_wp2_with (first
     | (at_builtin;refine ZaZ Zcg (by omega) (by omega) _ rfl _ _ 38 rfl B 42 Tryz.underlying38 (.agg (rtC Zf3 (.slice none 0 0))) rfl Tryz.infoRoute _ ([]:List QP) (q.1,.slice qa q.1.hops.length qc) (Zep _ _ _ _) rfl OW.out ⟨wd.heap.size,0,none⟩ 1 rfl (Zan (cs:=encQ (q.1,.slice qa q.1.hops.length qc))) (by first | (simp;done) | (simp;omega)) (by have:=HBW.out;simp;omega) ?_))
    intro v' w6 hown' hgrow hat;have NBI:=hide (show BI w6 B w2 qs (k+1) v' (([]:List QP)++[(q.1,.slice qa q.1.hops.length qc)]) from HBI.out.push HO2.out HS2.out HH2.out.apart (HFQ.out ▸ HQ.out) HLT.out BD2.out (HFQ.out ▸ ((HQO.out.keep (W':=wd.alloc (.cells (encQ (q.1,.slice qa q.1.hops.length qc)).toArray 42)) (fun j _ h2 _=>BD2.out.block j h2)).wide (YA _) BD2.out.size)) (by simpa using hown') hgrow (fun j hj=>by
     rcases hat with h1 | h1
     ·exact .inl (h1.symm.trans hj)
     ·right;rw [h1] at hj;simp at hj;simp;omega))
    obtain⟨va,vc,rfl⟩:=Zac hown';clear hown' hgrow hat OW BD2 HBI HLT HQO HQ HFQ HQN HSD e0 e1 e2 e3 e4 e5 HBW;go_wp2;go_roundw
    case rel=>exact ⟨k+1,_,([]:List QP)++[(q.1,.slice qa q.1.hops.length qc)],by omega,by go_num,rfl,NBI⟩
    case measure=>simp [intOf];omega
   ·have hbs:bs=b0++[b]:=by rw [hbs0,List.concat_eq_append]
    clear hbs0;subst hbs;have hlen1:(b0++[b]).length=b0.length+1:=by simp
    have hrow1:=HBI.out.own.row;rw [hlen1] at hrow1;obtain⟨gx,cx,rfl,hgx⟩:=ZqW hrow1;have hb0:(b0++[b])[b0.length]? = some b:=by simp
    have hbo:=HBI.out.own.nears b (by simp);obtain⟨ba,bc,hbn⟩:=Zac hbo.1;have g0:=Zc6 hrow1 hlen1 hb0 0 (by omega);have g1:=Zc6 hrow1 hlen1 hb0 1 (by omega);have g2:=Zc6 hrow1 hlen1 hb0 2 (by omega);have g3:=Zc6 hrow1 hlen1 hb0 3 (by omega);have g4:=Zc6 hrow1 hlen1 hb0 4 (by omega);have g5:=Zc6 hrow1 hlen1 hb0 5 (by omega);unfold encQ at g0 g1 g2 g3 g4 g5;rw [hbn] at g0 g1 g2 g3 g4 g5;simp only [YAX,YAW] at g0 g1 g2 g3 g4 g5;have hbl:b0.length+1<=1000:=by
     have h1:=Ziv HBI.out.best.1 (fun d hd=>by
      obtain⟨r,hr,rfl⟩:=YAR.1 hd;obtain⟨c,hc,rfl⟩:=YAR.1 hr;exact (HBI.out.off c hc).node)
     simp [Za7] at h1;omega
    have hgl:gx≠wr.heap.size:=by omega
    have HBO:=hide hbo;have HBN:=hide hbn;have HL1:=hide hlen1;have i0:(0:Int)<=(b0.length:Int):=by omega
    have i1:(b0.length:Int)<(b0.length:Int)+1:=by omega
    have l1:=g1.1;replace l1:=(BAL.cell hgx).trans l1;clear hrow1 hb0 hbo hbn hlen1;by_cases ht:b.1.to=q.1.to
    ·have hd:(b.1.to != q.1.to)=false:=by simpa using ht
     have HT:=hide ht;clear ht;go_wp2
     go_quiet (fail)
     obtain⟨wd,hwd⟩:∃ W,W=(wr.alloc (.cells #[.bool q.1.thing,.int .i64 q.1.to,.int .i64 q.1.kind,.int .i64 q.1.cost,.int .i64 q.1.far,.slice qa q.1.hops.length qc] 42)).drewN nq:=⟨_,rfl⟩;have BD:Below wr.heap.size wr wd:=by rw [hwd];exact Zn6 BAL
     have hxd:wd.heap[wr.heap.size]? = some (.cells #[.bool q.1.thing,.int .i64 q.1.to,.int .i64 q.1.kind,.int .i64 q.1.cost,.int .i64 q.1.far,.slice qa q.1.hops.length qc] 42):=by rw [hwd];exact hxl
     have hsd:wd.heap.size=wr.heap.size+1:=by rw [hwd];exact HSL.out
     rw [<-hwd];clear hwd hxl BAL HSL l1;have e0:=Zaa hxd 0;have e1:=Zaa hxd 1;have e2:=Zaa hxd 2;have e3:=Zaa hxd 3;have e4:=Zaa hxd 4;have e5:=Zaa hxd 5;simp only [YAd,YAX,YAW] at e0 e1 e2 e3 e4 e5;have d0:=g0.1;have d1:=g1.1;have d2:=g2.1;have d3:=g3.1;have d4:=g4.1;have d5:=g5.1;replace d0:=(BD.cell hgx).trans d0;replace d1:=(BD.cell hgx).trans d1;replace d2:=(BD.cell hgx).trans d2;replace d3:=(BD.cell hgx).trans d3;replace d4:=(BD.cell hgx).trans d4;replace d5:=(BD.cell hgx).trans d5;rw [Nat.add_zero] at d0;have zz0:gx<wd.heap.size:=by omega
     have zz1:wr.heap.size<wd.heap.size:=by omega
     have HSD:=hide hsd;have HBD:=hide BD;have HXD:=hide hxd;have HOR:=hide (fun W=>ZmA b.1 q.1 ba qa b.1.hops.length bc q.1.hops.length qc W);unfold rtC at HOR;obtain⟨R,hR⟩:∃ R,R=ordQ b.1 q.1:=⟨_,rfl⟩;rw [<-hR] at HOR;have HR:=hide hR;clear hR hsd BD hxd g0 g1 g2 g3 g4 g5 c0 c1 c2 c3 c4 c5;go_wp2
     go_region_held3 (fun W=>W.cell? ⟨gx,b0.length*6,none⟩=some (.bool b.1.thing)/\W.cell? ⟨gx,b0.length*6+1,none⟩=some (.int .i64 b.1.to)/\W.cell? ⟨gx,b0.length*6+2,none⟩=some (.int .i64 b.1.kind)/\W.cell? ⟨gx,b0.length*6+3,none⟩=some (.int .i64 b.1.cost)/\W.cell? ⟨gx,b0.length*6+4,none⟩=some (.int .i64 b.1.far)/\W.cell? ⟨gx,b0.length*6+5,none⟩=some (.slice ba b.1.hops.length bc)/\W.cell? ⟨wr.heap.size,0,none⟩=some (.bool q.1.thing)/\W.cell? ⟨wr.heap.size,1,none⟩=some (.int .i64 q.1.to)/\W.cell? ⟨wr.heap.size,2,none⟩=some (.int .i64 q.1.kind)/\W.cell? ⟨wr.heap.size,3,none⟩=some (.int .i64 q.1.cost)/\W.cell? ⟨wr.heap.size,4,none⟩=some (.int .i64 q.1.far)/\W.cell? ⟨wr.heap.size,5,none⟩=some (.slice qa q.1.hops.length qc)) (first | (refine ⟨?_,?_,?_,?_,?_,?_,?_,?_,?_,?_,?_,?_⟩ <;> (rw [b3.cell (by assumption)];assumption)) | go_keep) (first | (go_at_call 131;refine (HOR.out _).mono ?_;rintro e w3 ⟨rfl,b3,h3⟩))
     rename_i hheld
     clear hheld;have B3d:Below wd.heap.size wd w3:=Below.trans (show Below wd.heap.size wd wd.drew from ⟨rfl,rfl,rfl,YA _,fun _ _=>rfl⟩) b3;have B3:Below wr.heap.size wr w3:=HBD.out.trans (B3d.mono (by omega));clear b3 h3 e0 e1 e2 e3 e4 e5 d0 d1 d2 d3 d4 d5 HOR;by_cases hz:R=0
     ·have hd0:(R==0)=true:=by simpa using hz
      have hrow3:=Zad HBI.out.own.row B3 (YA _);rw [HL1.out] at hrow3;have g5:=Zc6 hrow3 HL1.out (show (b0++[b])[b0.length]? = some b by simp) 5 (by omega);unfold encQ at g5;rw [HBN.out] at g5;simp only [YAX,YAW] at g5;obtain⟨g5c,g5f⟩:=g5;have hx3:w3.heap[wr.heap.size]? = some (.cells #[.bool q.1.thing,.int .i64 q.1.to,.int .i64 q.1.kind,.int .i64 q.1.cost,.int .i64 q.1.far,.slice qa q.1.hops.length qc] 42):=(B3d.block _ zz1).trans HXD.out;have e5:=Zaa hx3 5;simp only [YAd,YAX,YAW] at e5;have hbo3:=Zad HBO.out.1 B3 (YA _);have hqo3:=Zad HQO.out.1 B3 (YA _);rw [HBN.out] at hbo3;rw [HQN.out] at hqo3;have hb6:=Zdf (HBI.out.off b (by simp)).asc (HBI.out.off b (by simp)).hop6;have hq6:=Zdf (HO2.out q (YAG HQ.out)).asc (HO2.out q (YAG HQ.out)).hop6;have y0:gx<w3.heap.size:=by have:=B3.size;omega
      have y1:wr.heap.size<w3.heap.size:=Zab hx3;have y2:gx≠wr.heap.size:=by omega
      have HHP:=hide (fun W (hb:Below w3.heap.size w3 W)=>Zh6 b.1.hops q.1.hops (.slice ba b.1.hops.length bc) (.slice qa q.1.hops.length qc) B B W (Zad hbo3 hb (YA _)) (Zad hqo3 hb (YA _)) (by omega) (by omega));have B3D:Below w3.heap.size w3 w3.drew:=⟨rfl,rfl,rfl,YA _,fun _ _=>rfl⟩;have HZ:=hide hz;clear hrow3 hx3 hbo3 hqo3 hz B3d;go_wp2
      go_region_with (first | (go_at_call 132;refine (HHP.out _ B3D).mono ?_;rintro e w5 ⟨u,rfl,hu,b5⟩;obtain⟨ua,uc,rfl⟩:=Zac hu;have k5:=b5.cell (p:=⟨gx,b0.length*6+5,none⟩) y0;have k6:=b5.frozen (p:=⟨gx,b0.length*6+5,none⟩) y0))
      all_goals
       have B5:Below wr.heap.size wr w5:=B3.trans ((B3D.trans b5).mono (by omega));have NBI:=hide (HBI.out.join HL1.out HO2.out HQ.out (HR.out.symm.trans HZ.out) hB2 HQT.out B5 (Zaf hu (show wr.heap.size<=w3.heap.size by omega)));clear k5 k6 b5 hu HHP HBI HQ HT HR HSD HBD HXD B3 HQO HFQ HQN HBO HBN HZ B3D B5 HL1;go_wp2;go_roundw
       case rel=>exact ⟨k+1,_,_,by omega,by go_num,rfl,NBI⟩
       case measure=>simp [intOf];omega
     ·have hd0:(R==0)=false:=by simpa using hz
      have NBI:=hide (HBI.out.pass HO2.out HQ.out HT.out (fun e=>hz (HR.out.trans e)) B3);clear HBI HQ HT HR HSD HBD HXD B3 HQO HFQ HQN HBO HBN HL1 hz;go_wp2;go_roundw
      case rel=>exact ⟨k+1,_,b0++[b],by omega,by go_num,rfl,NBI⟩
      case measure=>simp [intOf];omega
    ·have hd:(b.1.to != q.1.to)=true:=by simpa using ht
     have HT:=hide ht;clear ht;go_wp2
     go_quiet (fail)
     obtain⟨wd,hwd⟩:∃ W,W=(wr.alloc (.cells #[.bool q.1.thing,.int .i64 q.1.to,.int .i64 q.1.kind,.int .i64 q.1.cost,.int .i64 q.1.far,.slice qa q.1.hops.length qc] 42)).drewN nq:=⟨_,rfl⟩;have BD:Below wr.heap.size wr wd:=by rw [hwd];exact Zn6 BAL
     have hxd:wd.heap[wr.heap.size]? = some (.cells #[.bool q.1.thing,.int .i64 q.1.to,.int .i64 q.1.kind,.int .i64 q.1.cost,.int .i64 q.1.far,.slice qa q.1.hops.length qc] 42):=by rw [hwd];exact hxl
     have hsd:wd.heap.size=wr.heap.size+1:=by rw [hwd];exact HSL.out
     rw [<-hwd];clear hwd hxl BAL HSL;have e0:=Zaa hxd 0;have e1:=Zaa hxd 1;have e2:=Zaa hxd 2;have e3:=Zaa hxd 3;have e4:=Zaa hxd 4;have e5:=Zaa hxd 5;simp only [YAd,YAX,YAW] at e0 e1 e2 e3 e4 e5;have HSD:=hide hsd;have BD2:=hide (BD.alloc (by have:=HSD.out;omega) (.cells (encQ (q.1,.slice qa q.1.hops.length qc)).toArray 42));have OW:=hide ((Zad HBI.out.own.row BD (YA _)).alloc (.cells (encQ (q.1,.slice qa q.1.hops.length qc)).toArray 42));have HBW:=hide (YAK (YAK hB2 hws) BD.size);have HLT:=hide (show ∀ c∈Za7 (b0++[b]),c.to<q.1.to from HBI.out.lt HO2.out HQ.out HT.out);clear hsd hxd BD
     go_wp2_with (first
      | (at_builtin;refine ZaZ Zcg (by omega) (by omega) _ rfl _ _ 38 rfl B 42 Tryz.underlying38 (.agg (rtC Zf3 (.slice none 0 0))) rfl Tryz.infoRoute _ (b0++[b]) (q.1,.slice qa q.1.hops.length qc) (Zep _ _ _ _) rfl OW.out ⟨wd.heap.size,0,none⟩ 1 rfl (Zan (cs:=encQ (q.1,.slice qa q.1.hops.length qc))) (by first | (simp;done) | (simp;omega)) (by have:=HBW.out;simp;omega) ?_))
     intro v' w6 hown' hgrow hat;have NBI:=hide (show BI w6 B w2 qs (k+1) v' ((b0++[b])++[(q.1,.slice qa q.1.hops.length qc)]) from HBI.out.push HO2.out HS2.out HH2.out.apart (HFQ.out ▸ HQ.out) HLT.out BD2.out (HFQ.out ▸ ((HQO.out.keep (W':=wd.alloc (.cells (encQ (q.1,.slice qa q.1.hops.length qc)).toArray 42)) (fun j _ h2 _=>BD2.out.block j h2)).wide (YA _) BD2.out.size)) (by simpa using hown') hgrow (fun j hj=>by
      rcases hat with h1 | h1
      ·exact .inl (h1.symm.trans hj)
      ·right;rw [h1] at hj;simp at hj;simp;omega))
     obtain⟨va,vc,rfl⟩:=Zac hown';clear hown' hgrow hat OW BD2 HBI HLT HQO HQ HFQ HQN HSD e0 e1 e2 e3 e4 e5 HBW;go_wp2;go_roundw
     case rel=>exact ⟨k+1,_,(b0++[b])++[(q.1,.slice qa q.1.hops.length qc)],by omega,by go_num,rfl,NBI⟩
     case measure=>simp [intOf];omega
  ·have hkn:¬(k:Int)<(qs.length:Int):=by omega
   have HE:=hide (show ZcP (Za7 os) (Za7 bs) from HFIN.out bs (by have h:=HBI.out.best;rw [YAL (by omega)] at h;exact h));have HO:=hide HBI.out.own;have HF:=hide (show OffL bs from HBI.out.off);have HN:=hide (HB2.out.trans (HBI.out.below.mono hB2));obtain⟨xa,xc,rfl⟩:=Zac HO.out.row;clear HBI;go_wp2;go_ret
   first
    | exact ⟨_,bs,rfl,HE.out,HF.out,HO.out,HN.out⟩
    | exact ⟨_,rfl,bs,HE.out,HF.out,HO.out,HN.out⟩
end Go.Proofs.YtikloccefmofdaaGreat
