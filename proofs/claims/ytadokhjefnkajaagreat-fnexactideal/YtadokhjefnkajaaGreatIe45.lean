/-
  CarI
-/
import Derived.Test.YtadokhjefnkajaaGreatIe11
import Derived.Test.YtadokhjefnkajaaGreatIe43
import Derived.Test.YtadokhjefnkajaaGreatIe3
namespace Go.Proofs.YtadokhjefnkajaaGreat
open Go.RowKit
set_option linter.unusedSimpArgs false
set_option linter.unusedVariables false
set_option maxRecDepth 100000
set_option maxHeartbeats 8000000
abbrev wldV (N:Nat) (v1 v2 v3 v4 v5 v6 v7 v8:Value) (er:Int):Value:=.agg #[.int .i64 (N:Int),v1,v2,v3,v4,v5,v6,v7,v8,.int .i64 er]
abbrev pakV (kd f t r:Int) (v9 v10:Value):Value:=.agg #[.int .i64 kd,.int .i64 f,.int .i64 t,.int .i64 r,v9,v10]
def upI (N:Nat)(zs:List Bool)(v:Int):Bool:=inB v 1 (N:Int)&&upB zs (v-1).toNat
def lkUp (ls:List Lk)(bs:List Bool)(f t r:Int):Bool:=(ls.zip bs).any (ZdH f t r)
theorem ZkJ (N:Nat)(v1 v2 v3 v4 v5 v6 v7 v8:Value)(er:Int)(zs:List Bool)(v:Int)(w:World)(hz:Zba w v4 zs w.heap.size)(hl:zs.length=N)(hN:N<=1048576):
  Calls Tryz.prog 155 #[wldV N v1 v2 v3 v4 v5 v6 v7 v8 er,.int .i64 v] w fun e w'=>e=.returned (.bool (upI N zs v))/\Below w.heap.size w w':=by
 obtain⟨a4,c4,rfl⟩:=hz.shape;have B0:Below w.heap.size w (w.alloc (.cells #[.int .i64 (N:Int),v1,v2,v3,.slice a4 zs.length c4,v5,v6,v7,v8,.int .i64 er] 114)):=(Below.refl _ _).alloc (Nat.le_refl _) _;unfold wldV;by_cases hin:1<=v/\v<=(N:Int)
 ·have hI:inB v 1 (N:Int)=true:=by simp [inB,hin.1,hin.2]
  obtain⟨j,hj⟩:∃ j:Nat,v=(j:Int)+1:=⟨(v-1).toNat,by omega⟩
  obtain⟨z,hzj⟩:∃ z,zs[j]? = some z:=⟨zs[j]'(by omega),List.getElem?_eq_getElem _⟩
  have HU:=hide (show upI N zs v=z by unfold upI;rw [hI,show (v-1).toNat=j by omega,Ze4 hzj];rfl)
  obtain⟨g,off,cap',hve,hgb,c0⟩:=hz.cell j z hzj;cases hve
  rw [hl] at B0 |-;have hw1:IntKind.i64.wrap ((j:Int)+1-1)=(j:Int):=by rw [show (j:Int)+1-1=(j:Int) by omega];exact ZaK _ (by omega) (by omega)
  have hj0:(0:Int)<=(j:Int):=by omega
  have hj1:(j:Int)<(N:Int):=by omega
  have hgn:¬g=w.heap.size:=by omega
  have HI:=hide hI;subst hj;clear hzj hz hI hin
  go_enter Tryz.func155,Tryz.ntmps155
  go_wp2_with fail
  refine (Za3 _ _ _ _).mono ?_
  rintro e w1 ⟨rfl,rfl⟩
  (try rw [Int.min_self])
  rw [HI.out]
  go_wp2
  go_ret
  exact⟨Zai HU.out,B0⟩
 ·have hI:inB v 1 (N:Int)=false:=by
   cases e:inB v 1 (N:Int) with
   | false=>rfl
   | true=>simp [inB] at e;exact absurd e hin
  have HU:=hide (show upI N zs v=false by unfold upI;rw [hI];rfl)
  have HI:=hide hI;rw [hl] at B0 |-;clear hz hI hin
  go_enter Tryz.func155,Tryz.ntmps155
  go_wp2_with fail
  refine (Za3 _ _ _ _).mono ?_
  rintro e w1 ⟨rfl,rfl⟩
  (try rw [Int.min_self])
  rw [HI.out]
  go_wp2
  go_ret
  exact⟨Zai HU.out,B0⟩
theorem ZjL (f t r la lb lc lr:Int):Zbx f t r ⟨la,lb,lc,lr⟩=(decide (la=f/\lb=t/\lr=r)||decide (lb=f/\la=t/\lr=r)):=by
 rw [Bool.eq_iff_iff];simp [Zbx]
 constructor
 ·rintro ⟨h,h1 | h1⟩
  ·exact .inl ⟨h1.1,h1.2,h⟩
  ·exact .inr ⟨h1.2,h1.1,h⟩
 ·rintro (h | h)
  ·exact ⟨h.2.2,.inl ⟨h.1,h.2.1⟩⟩
  ·exact ⟨h.2.2,.inr ⟨h.2.1,h.1⟩⟩
theorem ZoS {w:World}{v1:Value}{ls:List Lk}(h:w.ownsRow 0 174 4 v1 ls.length (flat lkE ls)):(v1=.slice none 0 0/\ls=[])\/∃ g cap,v1=.slice (some ⟨g,0,none⟩) ls.length cap/\g<w.heap.size/\ls.length<=cap/\cap<=9223372036854775807:=by
 rcases h.2 with ⟨h0,h1⟩ | ⟨g,cap,cur,hv,hb,hh,hnc,hcm,_⟩
 ·refine .inl ⟨h0,?_⟩
  have e:=h.1;rw [h0] at *;cases ls with
  | nil=>rfl
  | cons a l=>simp at h1
 ·exact .inr ⟨g,cap,hv,Zab hh,hnc,by unfold maxLen at hcm;omega⟩
theorem ZlF (N:Nat)(v1 v2 v3 v4 v5 v6 v7 v8:Value)(er kd f t r:Int)(v9 v10:Value)(ls:List Lk)(bs:List Bool)(w:World)(h1:w.ownsRow 0 174 4 v1 ls.length (flat lkE ls))(h3:Zba w v3 bs w.heap.size)(hl:bs.length=ls.length)(hls:ls.length<=1048576):
  Calls Tryz.prog 209 #[wldV N v1 v2 v3 v4 v5 v6 v7 v8 er,pakV kd f t r v9 v10] w fun e w'=>e=.returned (.bool (lkUp ls bs f t r))/\Below w.heap.size w w':=by
 obtain⟨a3,c3,rfl⟩:=h3.shape;unfold wldV pakV
 rcases ZoS h1 with ⟨rfl,rfl⟩ | ⟨g,cap,rfl,hgb,hcap,hcap2⟩
 ·have HU:=hide (show lkUp [] bs f t r=false by simp [lkUp])
  rw [hl];clear h1 h3 hl hls
  go_enter Tryz.func209,Tryz.ntmps209
  go_wp2
  go_loopw [23] (fun i wr=>i=.int .i64 0/\Below w.heap.size w wr) (fun _ _=>0)
  case atStart=>exact ⟨rfl,Zas _ _⟩
  case round=>
   obtain⟨rfl,hb⟩:=hrel
   go_wp2
   go_ret
   exact⟨Zai HU.out,hb⟩
 have H1:=hide (show ZaS w (.slice (some ⟨g,0,none⟩) ls.length cap) ls w.heap.size from Zap h1)
 have H3:=hide h3;have HL:=hide hl;rw [hl];clear h1 h3 hl;obtain⟨R,hR⟩:∃ R,R=lkUp ls bs f t r:=⟨_,rfl⟩;rw [<-hR];have HR:=hide hR;clear hR;have hci:(ls.length:Int)<=(cap:Int):=by omega
 have G0:=hide (show ((w.alloc (.cells #[.int .i64 (N:Int),.slice (some ⟨g,0,none⟩) ls.length cap,v2,.slice a3 ls.length c3,v4,v5,v6,v7,v8,.int .i64 er] 114)).alloc (.cells #[.int .i64 kd,.int .i64 f,.int .i64 t,.int .i64 r,v9,v10] 180)).heap[w.heap.size]? = some (.cells #[.int .i64 (N:Int),.slice (some ⟨g,0,none⟩) ls.length cap,v2,.slice a3 ls.length c3,v4,v5,v6,v7,v8,.int .i64 er] 114) by rw [Below.heap_alloc _ _ _ (by simp),heap_alloc_new])
 have G1:=hide (show ((w.alloc (.cells #[.int .i64 (N:Int),.slice (some ⟨g,0,none⟩) ls.length cap,v2,.slice a3 ls.length c3,v4,v5,v6,v7,v8,.int .i64 er] 114)).alloc (.cells #[.int .i64 kd,.int .i64 f,.int .i64 t,.int .i64 r,v9,v10] 180)).heap[w.heap.size+1]? = some (.cells #[.int .i64 kd,.int .i64 f,.int .i64 t,.int .i64 r,v9,v10] 180) by
  have:=heap_alloc_new (w.alloc (.cells #[.int .i64 (N:Int),.slice (some ⟨g,0,none⟩) ls.length cap,v2,.slice a3 ls.length c3,v4,v5,v6,v7,v8,.int .i64 er] 114)) (.cells #[.int .i64 kd,.int .i64 f,.int .i64 t,.int .i64 r,v9,v10] 180)
  simpa using this)
 have B0:Below w.heap.size w ((w.alloc (.cells #[.int .i64 (N:Int),.slice (some ⟨g,0,none⟩) ls.length cap,v2,.slice a3 ls.length c3,v4,v5,v6,v7,v8,.int .i64 er] 114)).alloc (.cells #[.int .i64 kd,.int .i64 f,.int .i64 t,.int .i64 r,v9,v10] 180)):=Zas _ _
 go_enter Tryz.func209,Tryz.ntmps209
 go_wp2
 generalize (w.alloc (.cells #[.int .i64 (N:Int),.slice (some ⟨g,0,none⟩) ls.length cap,v2,.slice a3 ls.length c3,v4,v5,v6,v7,v8,.int .i64 er] 114)).alloc (.cells #[.int .i64 kd,.int .i64 f,.int .i64 t,.int .i64 r,v9,v10] 180)=w0 at *;have q1:=Zaa G1.out 1;have q2:=Zaa G1.out 2;have q3:=Zaa G1.out 3;have z3:=Zaa G0.out 3;simp at q1 q2 q3 z3
 have hz1:=Zab G1.out;have hz0:=Zab G0.out;have hw0:=B0.size
 go_loopw [23] (fun i wr=>∃ k:Nat,k<=ls.length/\i=.int .i64 k/\(∀ j,j<k->∀ x,(ls.zip bs)[j]? = some x->ZdH f t r x=false)/\Below w0.heap.size w0 wr) (fun i _=>ls.length-(intOf i).toNat)
 case atStart=>exact ⟨0,by omega,rfl,by omega,Below.refl _ _⟩
 case round=>
  obtain⟨k,hk,rfl,hno,hb⟩:=hrel;have HNO:=hide hno;clear hno;have hsz:=hb.size
  rename World=>wa
  by_cases hlt:k<ls.length
  ·obtain ⟨l,hlk⟩:∃ l,ls[k]? = some l:=⟨ls[k],List.getElem?_eq_getElem hlt⟩
   obtain⟨b,hbk⟩:∃ b,bs[k]? = some b:=⟨bs[k]'(by rw [HL.out];exact hlt),List.getElem?_eq_getElem _⟩
   have HZ:=hide (Zpr hlk hbk);obtain⟨g1,off,cap',hve,hbb,c0,c1,c2,c3'⟩:=H1.out.cells k l hlk;cases hve
   obtain⟨g3,of3,cap3,hve3,hb3,d0⟩:=H3.out.cell k b hbk;cases hve3
   have BA:Below w.heap.size w wa:=B0.trans (hb.mono hw0);rw [<-BA.cell (p:=⟨g,0+k*4,none⟩) hbb] at c0;rw [<-BA.cell (p:=⟨g,0+k*4+1,none⟩) hbb] at c1;rw [<-BA.cell (p:=⟨g,0+k*4+2,none⟩) hbb] at c2;rw [<-BA.cell (p:=⟨g,0+k*4+3,none⟩) hbb] at c3';rw [<-hb.cell (p:=⟨w.heap.size+1,1,none⟩) hz1] at q1;rw [<-hb.cell (p:=⟨w.heap.size+1,2,none⟩) hz1] at q2;rw [<-hb.cell (p:=⟨w.heap.size+1,3,none⟩) hz1] at q3;simp only [Nat.zero_add] at c0 c1 c2 c3'
   have hki:(0:Int)<=(k:Int):=by omega
   have hkj:(k:Int)<(ls.length:Int):=by omega
   have hbo:=ZhC l;clear hlk hbk;obtain⟨la,lb,lc,lr⟩:=l;unfold Zmr lkV at hbo;simp only [] at hbo c0 c1 c2 c3'
   have HBO:=hide hbo;clear hbo;have hz5:w.heap.size+1<wa.heap.size:=by omega
   have BL:Below wa.heap.size wa (wa.alloc (.cells #[.int .i64 la,.int .i64 lb,.int .i64 lc,.int .i64 lr] 174)):=(Below.refl _ _).alloc (Nat.le_refl _) _;rw [<-BL.cell (p:=⟨w.heap.size+1,1,none⟩) hz5] at q1;rw [<-BL.cell (p:=⟨w.heap.size+1,2,none⟩) hz5] at q2;rw [<-BL.cell (p:=⟨w.heap.size+1,3,none⟩) hz5] at q3;clear BL;have n2:g<wa.heap.size:=by omega
   go_wp2_with fail
   refine (HBO.out _).mono ?_
   rintro e w1 ⟨rfl,b1⟩;have hp:w1.heap[wa.heap.size+1]? = some (.cells #[.int .i64 f,.int .i64 t,.int .i64 lc,.int .i64 r] 174):=by
    rw [b1.block _ (by simp)]
    have:=heap_alloc_new (wa.alloc (.cells #[.int .i64 la,.int .i64 lb,.int .i64 lc,.int .i64 lr] 174)) (.cells #[.int .i64 f,.int .i64 t,.int .i64 lc,.int .i64 r] 174)
    simpa using this
   have B1:Below w0.heap.size w0 w1:=(hb.trans ((Zas _ _).mono hb.size)).trans (b1.mono (by simp;omega))
   have B2:Below w.heap.size w w1:=B0.trans (B1.mono hw0);have p0:=Zaa hp 0;have p1:=Zaa hp 1;have p2:=Zaa hp 2;have p3:=Zaa hp 3;simp at p0 p1 p2 p3
   have hpl:=Zab hp;clear hp b1 c0 c1 c2 c3' hb q1 q2 q3;obtain⟨z,hz⟩:∃ z,z=wa.heap.size+1:=⟨_,rfl⟩;rw [<-hz] at p0 p1 p2 p3 hpl |-;clear hz;rw [<-B1.cell (p:=⟨w.heap.size,3,none⟩) hz0] at z3;rw [<-B2.cell (p:=⟨g3,of3+k,none⟩) hb3] at d0;have hz4:w.heap.size<w1.heap.size:=by have:=B1.size;omega
   have hg4:g3<w1.heap.size:=by have:=B2.size;omega
   go_wp2
   go_loopw [39] (fun i wr=>∃ j:Nat,j<=2/\i=.int .i64 j/\Hid (1<=j->(decide (la=f/\lb=t/\lr=r)&&b)=false)/\Hid (2<=j->(decide (lb=f/\la=t/\lr=r)&&b)=false)/\Below w1.heap.size w1 wr) (fun i _=>2-(intOf i).toNat)
   case atStart=>exact ⟨0,by omega,rfl,hide (by omega),hide (by omega),Below.refl _ _⟩
   case round=>
    obtain⟨j,hj,rfl,HN1,HN2,hb⟩:=hrel;have hs2:=hb.size;rw [<-hb.cell (p:=⟨z,0,none⟩) hpl] at p0;rw [<-hb.cell (p:=⟨z,1,none⟩) hpl] at p1;rw [<-hb.cell (p:=⟨z,2,none⟩) hpl] at p2;rw [<-hb.cell (p:=⟨z,3,none⟩) hpl] at p3;rw [<-hb.cell (p:=⟨w.heap.size,3,none⟩) hz4] at z3;rw [<-hb.cell (p:=⟨g3,of3+k,none⟩) hg4] at d0;have m1:z<wr.heap.size:=by omega
    have m2:w.heap.size<wr.heap.size:=by omega
    have m3:g3<wr.heap.size:=by omega
    obtain rfl | rfl | rfl:j=0\/j=1\/j=2:=by omega
    ·have i0:=fun W=>Zgu W (.int .i64 la) (.int .i64 lb) (.int .i64 lc) (.int .i64 lr) (.int .i64 lb) (.int .i64 la) (.int .i64 lc) (.int .i64 lr)
     by_cases h:la=f/\lb=t/\lr=r
     ·have e0:=ZfL (lc:=lc) h
      have HH:=hide h;clear h;cases b
      ·go_wp2
       go_roundw
       case rel=>exact ⟨1,by omega,by go_num,hide (by simp),hide (by omega),hb.alloc hb.size _⟩
       case measure=>simp [intOf]
      ·have HF:=hide (show R=true by
        rw [HR.out];exact List.any_eq_true.2 ⟨_,List.mem_of_getElem? HZ.out,by simp only [ZdH,ZjL,decide_eq_true HH.out];rfl⟩)
       go_wp2
       go_ret
       exact⟨Zai HF.out,B2.trans ((hb.alloc hb.size _).mono B2.size)⟩
     ·have e0:=Zh7 (lc:=lc) h
      have HH:=hide h;clear h
      go_wp2
      go_roundw
      case rel=>exact ⟨1,by omega,by go_num,hide (fun _=>by rw [decide_eq_false HH.out];rfl),hide (by omega),hb.alloc hb.size _⟩
      case measure=>simp [intOf]
    ·have i0:=fun W=>Zgv W (.int .i64 la) (.int .i64 lb) (.int .i64 lc) (.int .i64 lr) (.int .i64 lb) (.int .i64 la) (.int .i64 lc) (.int .i64 lr)
     by_cases h:lb=f/\la=t/\lr=r
     ·have e0:=ZfL (lc:=lc) h
      have HH:=hide h;clear h;cases b
      ·go_wp2
       go_roundw
       case rel=>exact ⟨2,by omega,by go_num,hide (by simp),hide (by simp),hb.alloc hb.size _⟩
       case measure=>simp [intOf]
      ·have HF:=hide (show R=true by
        rw [HR.out];exact List.any_eq_true.2 ⟨_,List.mem_of_getElem? HZ.out,by simp only [ZdH,ZjL,decide_eq_true HH.out,Bool.or_true,Bool.and_true]⟩)
       go_wp2
       go_ret
       exact⟨Zai HF.out,B2.trans ((hb.alloc hb.size _).mono B2.size)⟩
     ·have e0:=Zh7 (lc:=lc) h
      have HH:=hide h;clear h
      go_wp2
      go_roundw
      case rel=>exact ⟨2,by omega,by go_num,hide (fun _=>HN1.out (by omega)),hide (fun _=>by rw [decide_eq_false HH.out];rfl),hb.alloc hb.size _⟩
      case measure=>simp [intOf]
    ·go_wp2
     go_roundw
     case rel=>exact ⟨k+1,by omega,by go_num,(fun j hj x hx=>by
      by_cases e:j=k
      ·subst e
       rw [HZ.out] at hx;cases hx
       have a1:=HN1.out (by omega)
       have a2:=HN2.out (by omega)
       simp only [ZdH,ZjL]
       cases b
       ·rfl
       ·rw [Bool.and_true] at a1 a2;rw [a1,a2];rfl
      ·exact HNO.out j (by omega) x hx),B1.trans (hb.mono B1.size)⟩
     case measure=>simp [intOf];omega
  ·have HF:=hide (show R=false by
    rw [HR.out];unfold lkUp;rw [List.any_eq_false];intro x hx;obtain⟨i,hi⟩:=List.getElem?_of_mem hx;have hil:i<(ls.zip bs).length:=(List.getElem?_eq_some_iff.1 hi).1;rw [List.length_zip,HL.out] at hil;rw [HNO.out i (by omega) x hi];decide)
   go_wp2
   go_ret
   exact⟨Zai HF.out,B0.trans (hb.mono hw0)⟩
theorem Zjv (N:Nat)(v1 v2 v3 v4 v5 v6 v7 v8:Value)(er kd f t r:Int)(v9 v10:Value)(ls:List Lk)(bs zs:List Bool)(w:World)(h1:w.ownsRow 0 174 4 v1 ls.length (flat lkE ls))(h3:Zba w v3 bs w.heap.size)(h4:Zba w v4 zs w.heap.size)(hl:bs.length=ls.length)(hls:ls.length<=1048576)(hz:zs.length=N)(hN:N<=1048576):
  Calls Tryz.prog 156 #[wldV N v1 v2 v3 v4 v5 v6 v7 v8 er,pakV kd f t r v9 v10] w fun e w'=>e=.returned (.bool (upI N zs f&&upI N zs t&&lkUp ls bs f t r))/\Below w.heap.size w w':=by
 have HU:=hide (fun W (hb:Below w.heap.size w W) (v:Int)=>ZkJ N v1 v2 v3 v4 v5 v6 v7 v8 er zs v W (ZaE.then h4 hb) hz hN)
 have HK:=hide (fun W (hb:Below w.heap.size w W)=>ZlF N v1 v2 v3 v4 v5 v6 v7 v8 er kd f t r v9 v10 ls bs W (Zae h1 hb (Nat.le_refl _)) (ZaE.then h3 hb) hl hls)
 clear h1 h3 h4 hl hls hz hN;unfold wldV pakV at *;have G0:=hide (show ((w.alloc (.cells #[.int .i64 (N:Int),v1,v2,v3,v4,v5,v6,v7,v8,.int .i64 er] 114)).alloc (.cells #[.int .i64 kd,.int .i64 f,.int .i64 t,.int .i64 r,v9,v10] 180)).heap[w.heap.size]? = some (.cells #[.int .i64 (N:Int),v1,v2,v3,v4,v5,v6,v7,v8,.int .i64 er] 114) by rw [Below.heap_alloc _ _ _ (by simp),heap_alloc_new])
 have G1:=hide (show ((w.alloc (.cells #[.int .i64 (N:Int),v1,v2,v3,v4,v5,v6,v7,v8,.int .i64 er] 114)).alloc (.cells #[.int .i64 kd,.int .i64 f,.int .i64 t,.int .i64 r,v9,v10] 180)).heap[w.heap.size+1]? = some (.cells #[.int .i64 kd,.int .i64 f,.int .i64 t,.int .i64 r,v9,v10] 180) by
  have:=heap_alloc_new (w.alloc (.cells #[.int .i64 (N:Int),v1,v2,v3,v4,v5,v6,v7,v8,.int .i64 er] 114)) (.cells #[.int .i64 kd,.int .i64 f,.int .i64 t,.int .i64 r,v9,v10] 180)
  simpa using this)
 have B0:Below w.heap.size w ((w.alloc (.cells #[.int .i64 (N:Int),v1,v2,v3,v4,v5,v6,v7,v8,.int .i64 er] 114)).alloc (.cells #[.int .i64 kd,.int .i64 f,.int .i64 t,.int .i64 r,v9,v10] 180)):=Zas _ _;obtain⟨p,hp⟩:∃ p,p=upI N zs f:=⟨_,rfl⟩;obtain⟨q,hq⟩:∃ q,q=upI N zs t:=⟨_,rfl⟩;obtain⟨k,hk⟩:∃ k,k=lkUp ls bs f t r:=⟨_,rfl⟩;have HP:=hide (fun W hb=>by have h:=HU.out W hb f;rw [<-hp] at h;exact h)
 have HQ:=hide (fun W hb=>by have h:=HU.out W hb t;rw [<-hq] at h;exact h)
 rw [<-hk] at HK;rw [<-hp, <-hq, <-hk];clear HU hp hq hk
 go_enter Tryz.func156,Tryz.ntmps156
 go_wp2_with fail
 refine (HP.out _ B0).mono ?_
 rintro e w1 ⟨rfl,b1⟩;have B1:Below w.heap.size w w1:=B0.trans (b1.mono B0.size);have g0:=(b1.block _ (Zab G0.out)).trans G0.out;have g1:=(b1.block _ (Zab G1.out)).trans G1.out;have z0:=Zaa g0 0;have z1:=Zaa g0 1;have z2:=Zaa g0 2;have z3:=Zaa g0 3;have z4:=Zaa g0 4;have z5:=Zaa g0 5;have z6:=Zaa g0 6;have z7:=Zaa g0 7;have z8:=Zaa g0 8;have z9:=Zaa g0 9;have q2:=Zaa g1 2;simp at z0 z1 z2 z3 z4 z5 z6 z7 z8 z9 q2
 have K0:=hide g0;have K1:=hide g1;clear g0 g1 b1 G0 G1;cases p
 ·go_wp2
  go_ret
  exact⟨by simp,B1⟩
 go_wp2_with fail
 refine (HQ.out _ B1).mono ?_
 rintro e w2 ⟨rfl,b2⟩;have B2:Below w.heap.size w w2:=B1.trans (b2.mono B1.size);have g0:=(b2.block _ (Zab K0.out)).trans K0.out;have g1:=(b2.block _ (Zab K1.out)).trans K1.out;clear z0 z1 z2 z3 z4 z5 z6 z7 z8 z9 q2;have z0:=Zaa g0 0;have z1:=Zaa g0 1;have z2:=Zaa g0 2;have z3:=Zaa g0 3;have z4:=Zaa g0 4;have z5:=Zaa g0 5;have z6:=Zaa g0 6;have z7:=Zaa g0 7;have z8:=Zaa g0 8;have z9:=Zaa g0 9;have q0:=Zaa g1 0;have q1:=Zaa g1 1;have q2:=Zaa g1 2;have q3:=Zaa g1 3;have q4:=Zaa g1 4;have q5:=Zaa g1 5;simp at z0 z1 z2 z3 z4 z5 z6 z7 z8 z9 q0 q1 q2 q3 q4 q5
 clear g0 g1 b2 K0 K1;cases q
 ·go_wp2
  go_ret
  exact⟨by simp,B2⟩
 go_wp2_with fail
 refine (HK.out _ B2).mono ?_
 rintro e w3 ⟨rfl,b3⟩;have B3:Below w.heap.size w w3:=B2.trans (b3.mono B2.size);clear b3 z0 z1 z2 z3 z4 z5 z6 z7 z8 z9 q0 q1 q2 q3 q4 q5
 go_wp2
 go_ret
 exact⟨by simp,B3⟩
end Go.Proofs.YtadokhjefnkajaaGreat
