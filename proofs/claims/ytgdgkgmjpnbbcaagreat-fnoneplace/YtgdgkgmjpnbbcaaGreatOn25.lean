/-
  DrawNet CurA DrawRight DrawRB
-/
import Derived.Test.YtgdgkgmjpnbbcaaGreatOn24
import Derived.Test.YtgdgkgmjpnbbcaaGreatOn1
import Derived.Maps.AppendAt
import Derived.Test.YtgdgkgmjpnbbcaaGreatOn2
namespace Go.Proofs.YtgdgkgmjpnbbcaaGreat
open Go.RowKit
set_option linter.unusedSimpArgs false
set_option linter.unusedVariables false
set_option maxRecDepth 100000
set_option maxHeartbeats 8000000
theorem Zdl (w:World):∀ k,k<4->∃ z:Int,(0<=z/\z<=2)/\(w.alloc (.cells #[.int .i64 0,.int .i64 0,.int .i64 1,.int .i64 2] 3)).cell? ⟨w.heap.size,k,none⟩=some (.int .i64 z):=by
 intro k hk;have h:=Zaa (heap_alloc_new w (.cells #[.int .i64 0,.int .i64 0,.int .i64 1,.int .i64 2] 3)) k
 match k,hk with
 | 0,_=>exact ⟨0,by omega,h⟩
 | 1,_=>exact ⟨0,by omega,h⟩
 | 2,_=>exact ⟨1,by omega,h⟩
 | 3,_=>exact ⟨2,by omega,h⟩
theorem ZnV (p:Nat)(a:Option Addr)(len cap:Nat)(w:World)(hc:Cur w p a len cap):
  Calls Tryz.prog 15 #[.pointer (some ⟨p,0,none⟩)] w fun e w'=>∃ (x:NetD) (v1 v2:Value),e=.returned (.agg #[.int .i64 x.n,v1,v2])/\Za2 x=true/\w'.ownsRow w.heap.size 32 4 v1 x.ls.length (flat lkE x.ls)/\w'.ownsRow w.heap.size 46 4 v2 x.ts.length (flat thE x.ts)/\Cur w' p a len cap/\Below p w w'/\w.grownBy w' (some p):=by
 have hp:=Zcc hc;have HC:=hide hc;clear hc
 go_enter Tryz.func15,Tryz.ntmps15
 go_wp2_with fail
 refine (Zby p a len cap 4 _ (Zb9 HC.out _) (by omega) (by omega)).mono ?_
 rintro e w1 ⟨y0,rfl,hy0,hy1,hc1,hg1⟩;have hsz1:w.heap.size<w1.heap.size:=by have:=hg1.size;simp at this;omega
 have st0:NetSt w (w1.alloc (.cells #[.int .i64 (2+y0),.slice none 0 0,.slice none 0 0] 27)) p w.heap.size w1.heap.size a len cap (2+y0) (.slice none 0 0) (.slice none 0 0) [] []:=
  {cur:=Zb9 hc1 _
   bel:=(((Below.refl p w).alloc (by omega) _).grown hg1 (by simp;omega) (fun k hk=>by simp at hk;omega)).alloc (by omega) _
   new:=Nat.le_refl _
   gro:=Zai (Zai (World.grownBy_alloc w _ _) hg1) (World.grownBy_alloc w1 _ _)
   box:=heap_alloc_new w1 _
   res:=by
    rw [Below.heap_alloc _ _ _ hsz1,hg1.block _ (by simp) (by simp;omega)]
    exact heap_alloc_new w _
   o1:=⟨by simp [flat],.inl ⟨rfl,rfl⟩⟩
   o2:=⟨by simp [flat],.inl ⟨rfl,rfl⟩⟩ }
 have ST0:=hide st0;clear hc1 hg1 st0 HC
 go_wp2
 go_loopw [4] (fun i wr=>∃ (k:Nat) (v1:Value) (ls:List Lk),k<=7/\i=.int .i64 k/\NetSt w wr p w.heap.size w1.heap.size a len cap (2+y0) v1 (.slice none 0 0) ls []/\Zkc (2+y0) ls/\ls.length<=12) (fun i _=>8-(intOf i).toNat)
 case atStart=>exact ⟨0,_,[],by omega,rfl,ST0.out,⟨fun x hx=>by simp at hx,List.Pairwise.nil⟩,by simp⟩
 case round=>
  clear ST0;obtain⟨k,v1,ls,hk,rfl,st,hr,hll⟩:=hrel;obtain⟨b1,c1,rfl⟩:=Zbh.shape (Zar st.o1);have g0:=Zaa st.box 0;simp at g0
  have STD:=hide st.drew;have HR:=hide hr;clear hr st
  go_wp2
  go_region_held3 (fun W=>W.cell? ⟨w1.heap.size,0,none⟩=some (.int .i64 (2+y0))) (first | go_keep | exact hg2.cell (by assumption) (by simp;omega)) (first | (go_at_call 44;refine (Zby p a len cap 3 _ STD.out.cur ?_ ?_).mono ?_;omega;omega;rintro e w2 ⟨y,rfl,hy2,hy3,hc2,hg2⟩))
  have st2:=STD.out.grown hc2 hg2 hp hsz1;have ST2:=hide st2;have s0:=Zaa st2.box 0;simp at s0
  clear hc2 hg2 st2 STD g0;rw [show IntKind.i64.wrap (2+y0+y)=2+y0+y from ZaO _ (by omega) (by omega)]
  by_cases hcond:(k:Int)<2+y0+y
  case neg=>
   have wo:World:=wr
   go_wp2
   clear hcond hk
   go_loopw [8] (fun i wr=>∃ (k:Nat) (v2:Value) (ts:List Th),k<=2/\i=.int .i64 k/\NetSt w wr p w.heap.size w1.heap.size a len cap (2+y0) (.slice b1 ls.length c1) v2 ls ts/\Zkd (2+y0) ts/\ts.length<=k) (fun i _=>3-(intOf i).toNat)
   case atStart=>exact ⟨0,_,[],by omega,rfl,ST2.out,⟨fun x hx=>by simp at hx,List.Pairwise.nil⟩,by simp⟩
   case round=>
    clear ST2 s0;obtain⟨k,v2,ts,hk,rfl,st,hrt,htl⟩:=hrel;obtain⟨b2,c2,rfl⟩:=Zbv.shape (Zar st.o2);have ST:=hide st;have HRT:=hide hrt;clear st hrt
    go_wp2_with fail
    refine (Zby p a len cap 3 _ ST.out.cur (by omega) (by omega)).mono ?_
    rintro e w3 ⟨y3,rfl,hy30,hy31,hc3,hg3⟩;have st3:=ST.out.grown hc3 hg3 hp hsz1;clear hc3 hg3 ST;have e0:=st3.c0;have e1:=st3.c1;have e2:=st3.c2;by_cases hcond:(k:Int)<y3
    ·have hk1:k<=1:=by omega
     have st4:=st3.drew;have d0:=st4.c0;have d2:=st4.c2;clear st3 e0 e1 e2
     go_wp2
     go_region_with (first | (go_at_call 44;refine (Zby p a len cap _ _ (show NetSt w _ p w.heap.size w1.heap.size a len cap (2+y0) (.slice b1 ls.length c1) (.slice b2 ts.length c2) ls ts from by assumption).cur ?_ ?_).mono ?_;omega;omega;rintro e wx ⟨yy,rfl,hh0,hh1,hcc,hgg⟩;have hwr:IntKind.i64.wrap (1+yy)=1+yy:=ZaO _ (by omega) (by omega);have stx:=(show NetSt w _ p w.heap.size w1.heap.size a len cap (2+y0) (.slice b1 ls.length c1) (.slice b2 ts.length c2) ls ts from by assumption).grown hcc hgg hp hsz1;have ex0:=stx.c0;have ex2:=stx.c2;clear hcc hgg) | (go_at_call 16;refine (Zh7 p a len cap _ _ (show NetSt w _ p w.heap.size w1.heap.size a len cap (2+y0) (.slice b1 ls.length c1) (.slice b2 ts.length c2) ls ts from by assumption).cur ?_ ?_).mono ?_;omega;omega;rintro e wx ⟨ff,rfl,hcc,hgg⟩;have stx:=(show NetSt w _ p w.heap.size w1.heap.size a len cap (2+y0) (.slice b1 ls.length c1) (.slice b2 ts.length c2) ls ts from by assumption).grown hcc hgg hp hsz1;have ex0:=stx.c0;have ex2:=stx.c2;clear hcc hgg) | (go_at_call 47;refine (Zog _ ts ⟨_,_,_,_⟩ _ ?_ (Zar (show NetSt w _ p w.heap.size w1.heap.size a len cap (2+y0) (.slice b1 ls.length c1) (.slice b2 ts.length c2) ls ts from by assumption).o2)).mono ?_;omega;rintro e wy ⟨vv,rfl,oy,hby⟩;obtain⟨b3,c3,rfl⟩:=Zbv.shape (Zar oy);have st8:=(show NetSt w _ p w.heap.size w1.heap.size a len cap (2+y0) (.slice b1 ls.length c1) (.slice b2 ts.length c2) ls ts from by assumption).below hby;have st9:=(show NetSt w _ p w.heap.size w1.heap.size a len cap (2+y0) (.slice b1 ls.length c1) (.slice b2 ts.length c2) ls ts from by assumption).put2 hby oy hp hsz1;have ex2:=st8.c2;have fx2:=Zae st8.box 2;clear oy hby st8))
     all_goals go_wp2
     all_goals exact ⟨⟨k+1,_,_,by omega,by go_num,st9,Zlr HRT.out (Zpl ⟨by omega,by omega⟩ ⟨by omega,by omega⟩ ⟨by omega,by omega⟩),Nat.le_trans (Zoh ts _) (by omega)⟩,by simp [intOf];omega⟩
    ·have r0:=Zaa st3.res 0
     have r1:=Zaa st3.res 1;have r2:=Zaa st3.res 2;have f0:=Zae st3.res 0;have f1:=Zae st3.res 1;have f2:=Zae st3.res 2;simp at r0 r1 r2
     go_wp2
     have hfin:(((w3.setCell ⟨w.heap.size,0,none⟩ (.int .i64 (2+y0))).setCell ⟨w.heap.size,1,none⟩ (.slice b1 ls.length c1)).setCell ⟨w.heap.size,2,none⟩ (.slice b2 ts.length c2)).heap[w.heap.size]? = some (.cells #[.int .i64 (2+y0),.slice b1 ls.length c1,.slice b2 ts.length c2] 27):=by
      have k1:=heap_setCell_same _ _ 0 _ _ (.int .i64 (2+y0)) st3.res;have k2:=heap_setCell_same _ _ 1 _ _ (.slice b1 ls.length c1) k1;have k3:=heap_setCell_same _ _ 2 _ _ (.slice b2 ts.length c2) k2;exact k3
     try simp only [Exit.inBlock,Exit.then]
     refine bodyPost_ret (results_cell_row rfl _ _ w.heap.size 27 #[.int .i64 (2+y0),.slice b1 ls.length c1,.slice b2 ts.length c2] (0,0) _ rfl hfin Tryz.underlying27 rfl (by kernel_rfl)) rfl ?_
     refine⟨⟨2+y0,ls,ts⟩,_,_,rfl,?_,?_,?_,?_,?_,?_⟩
     ·unfold Za2
      simp only []
      rw [Ze1 (by omega) (by omega),Zms HR.out hll,ZlE HRT.out (by omega)]
      rfl
     ·exact Zah (ZaH (ZaH (ZaH st3.o1 (by omega)) (by omega)) (by omega)) (by omega)
     ·exact Zah (ZaH (ZaH (ZaH st3.o2 (by omega)) (by omega)) (by omega)) (by omega)
     ·exact ((st3.cur.grown (Zal _ _ _ _) (fun b hb=>by simp;omega)).grown (Zal _ _ _ _) (fun b hb=>by simp;omega)).grown (Zal _ _ _ _) (fun b hb=>by simp;omega)
     ·exact ((st3.bel.setCell (by show p<=w.heap.size;omega) _).setCell (by show p<=w.heap.size;omega) _).setCell (by show p<=w.heap.size;omega) _
     ·refine ⟨st3.gro.os,st3.gro.tape,st3.gro.output,by have:=st3.gro.size;simpa using this,fun b hb hne=>?_⟩
      rw [heap_setCell_other _ ⟨w.heap.size,2,none⟩ _ _ (by show b≠w.heap.size;omega),heap_setCell_other _ ⟨w.heap.size,1,none⟩ _ _ (by show b≠w.heap.size;omega),heap_setCell_other _ ⟨w.heap.size,0,none⟩ _ _ (by show b≠w.heap.size;omega)]
      exact st3.gro.block b hb hne
  have hk6:k<=6:=by omega
  go_wp2_with fail
  refine (Zby p a len cap (2+y0) _ ST2.out.cur (by omega) (by omega)).mono ?_
  rintro e w3 ⟨x,rfl,hx0,hx1,hc3,hg3⟩;have st3:=ST2.out.grown hc3 hg3 hp hsz1;have ST3:=hide st3;have s0:=Zaa st3.box 0;simp at s0
  clear hc3 hg3 st3 ST2
  go_wp2_with fail
  refine (Zby p a len cap (2+y0) _ ST3.out.cur (by omega) (by omega)).mono ?_
  rintro e w4 ⟨x2,rfl,hx2,hx3,hc4,hg4⟩;have st4:=ST3.out.grown hc4 hg4 hp hsz1;have ST4:=hide st4;have s0:=Zaa st4.box 0;have s1:=Zaa st4.box 1;simp at s0 s1
  clear hc4 hg4 st4 ST3;obtain⟨m,hm⟩:∃ m,(1+x).tmod (2+y0)=m:=⟨_,rfl⟩;have hm1:(1+x<2+y0/\m=1+x)\/(1+x=2+y0/\m=0):=by
   rw [<-hm,Int.tmod_eq_emod_of_nonneg (by omega)]
   by_cases h:1+x<2+y0
   ·exact .inl ⟨h,Int.emod_eq_of_lt (by omega) h⟩
   ·have e:1+x=2+y0:=by omega
    exact .inr ⟨e,by rw [e];exact Int.emod_self⟩
  have hy00:¬(2+y0=0):=by omega
  go_wp2_with fail
  ·have hab:1<=(k:Int)+1/\(k:Int)+1<(k:Int)+2/\(k:Int)+2<=2+y0:=by
    clear ST4 s0 s1 HR
    (try simp only [beq_eq_false_iff_ne,ne_eq,beq_iff_eq] at *)
    omega
   refine (Zby p a len cap 4 _ ST4.out.cur (by omega) (by omega)).mono ?_
   rintro e w5 ⟨c,rfl,hc0,hc9,hc5,hg5⟩;have st5:=ST4.out.grown hc5 hg5 hp hsz1;have ST5:=hide st5;have hp5:=Zcc st5.cur;clear hc5 hg5 st5 ST4 s0 s1
   go_wp2_with fail
   refine (ZdZ (fun z=>0<=z/\z<=2) p a len cap w5.heap.size 4 _ (Zb9 ST5.out.cur _) (by omega) (by omega) (by omega) (Zdl w5)).mono ?_
   rintro e w6 ⟨r,rfl,⟨hr0,hr1⟩,hc6,hg6⟩;have st6:=(ST5.out.alloc _).grown hc6 hg6 hp hsz1;have ST6:=hide st6;have s1:=Zaa st6.box 1;have hbx:=Zab st6.box;simp at s1
   clear hc6 hg6 st6 ST5;by_cases h12:(ls.length:Int)<12
   ·go_wp2_with fail
    refine (Zfd _ ls ⟨(k:Int)+1,(k:Int)+2,1+c,r⟩ _ (by omega) (Zar (ST6.out.alloc _).o1)).mono ?_
    rintro e w7 ⟨v',rfl,o7,b7⟩;obtain⟨b2,c2,rfl⟩:=Zbh.shape (Zar o7);have st7:=(ST6.out.alloc _).put1 b7 o7 hp hsz1;have t1:=Zaa ((ST6.out.alloc (.cells #[.int .i64 ((k:Int)+1),.int .i64 ((k:Int)+2),.int .i64 (1+c),.int .i64 r] 32)).below b7).box 1;have f1:=Zae ((ST6.out.alloc (.cells #[.int .i64 ((k:Int)+1),.int .i64 ((k:Int)+2),.int .i64 (1+c),.int .i64 r] 32)).below b7).box 1;simp at t1
    have ST7:=hide st7;have hr7:=Zds HR.out (ZdS (n:=2+y0) (c:=1+c) (r:=r) ⟨by omega,by omega⟩ hab.1 hab.2.1 hab.2.2 ⟨by omega,by omega⟩ ⟨hr0,hr1⟩)
    have HR7:=hide hr7;have hl7:=Zff ls ⟨(k:Int)+1,(k:Int)+2,1+c,r⟩;have HL7:=hide hl7;clear o7 b7 st7 hr7 hl7 ST6
    go_wp2
    exact⟨⟨k+1,_,ZfF ls ⟨(k:Int)+1,(k:Int)+2,1+c,r⟩,by omega,by go_num,ST7.out,HR7.out,by have:=HL7.out;omega⟩,by simp [intOf];omega⟩
   ·go_wp2
    exact⟨⟨k+1,_,ls,by omega,by go_num,ST6.out.alloc _,HR.out,hll⟩,by simp [intOf];omega⟩
  ·have hab:1<=m+1/\m+1<1+x/\1+x<=2+y0:=by
    clear ST4 s0 s1 HR
    (try simp only [beq_eq_false_iff_ne,ne_eq,beq_iff_eq] at *)
    omega
   refine (Zby p a len cap 4 _ ST4.out.cur (by omega) (by omega)).mono ?_
   rintro e w5 ⟨c,rfl,hc0,hc9,hc5,hg5⟩;have st5:=ST4.out.grown hc5 hg5 hp hsz1;have ST5:=hide st5;have hp5:=Zcc st5.cur;clear hc5 hg5 st5 ST4 s0 s1
   go_wp2_with fail
   refine (ZdZ (fun z=>0<=z/\z<=2) p a len cap w5.heap.size 4 _ (Zb9 ST5.out.cur _) (by omega) (by omega) (by omega) (Zdl w5)).mono ?_
   rintro e w6 ⟨r,rfl,⟨hr0,hr1⟩,hc6,hg6⟩;have st6:=(ST5.out.alloc _).grown hc6 hg6 hp hsz1;have ST6:=hide st6;have s1:=Zaa st6.box 1;have hbx:=Zab st6.box;simp at s1
   clear hc6 hg6 st6 ST5;by_cases h12:(ls.length:Int)<12
   ·go_wp2_with fail
    refine (Zfd _ ls ⟨m+1,1+x,1+c,r⟩ _ (by omega) (Zar (ST6.out.alloc _).o1)).mono ?_
    rintro e w7 ⟨v',rfl,o7,b7⟩;obtain⟨b2,c2,rfl⟩:=Zbh.shape (Zar o7);have st7:=(ST6.out.alloc _).put1 b7 o7 hp hsz1;have t1:=Zaa ((ST6.out.alloc (.cells #[.int .i64 (m+1),.int .i64 (1+x),.int .i64 (1+c),.int .i64 r] 32)).below b7).box 1;have f1:=Zae ((ST6.out.alloc (.cells #[.int .i64 (m+1),.int .i64 (1+x),.int .i64 (1+c),.int .i64 r] 32)).below b7).box 1;simp at t1
    have ST7:=hide st7;have hr7:=Zds HR.out (ZdS (n:=2+y0) (c:=1+c) (r:=r) ⟨by omega,by omega⟩ hab.1 hab.2.1 hab.2.2 ⟨by omega,by omega⟩ ⟨hr0,hr1⟩)
    have HR7:=hide hr7;have hl7:=Zff ls ⟨m+1,1+x,1+c,r⟩;have HL7:=hide hl7;clear o7 b7 st7 hr7 hl7 ST6
    go_wp2
    exact⟨⟨k+1,_,ZfF ls ⟨m+1,1+x,1+c,r⟩,by omega,by go_num,ST7.out,HR7.out,by have:=HL7.out;omega⟩,by simp [intOf];omega⟩
   ·go_wp2
    exact⟨⟨k+1,_,ls,by omega,by go_num,ST6.out.alloc _,HR.out,hll⟩,by simp [intOf];omega⟩
  ·have hab:1<=1+x/\1+x<m+1/\m+1<=2+y0:=by
    clear ST4 s0 s1 HR
    (try simp only [beq_eq_false_iff_ne,ne_eq,beq_iff_eq] at *)
    omega
   refine (Zby p a len cap 4 _ ST4.out.cur (by omega) (by omega)).mono ?_
   rintro e w5 ⟨c,rfl,hc0,hc9,hc5,hg5⟩;have st5:=ST4.out.grown hc5 hg5 hp hsz1;have ST5:=hide st5;have hp5:=Zcc st5.cur;clear hc5 hg5 st5 ST4 s0 s1
   go_wp2_with fail
   refine (ZdZ (fun z=>0<=z/\z<=2) p a len cap w5.heap.size 4 _ (Zb9 ST5.out.cur _) (by omega) (by omega) (by omega) (Zdl w5)).mono ?_
   rintro e w6 ⟨r,rfl,⟨hr0,hr1⟩,hc6,hg6⟩;have st6:=(ST5.out.alloc _).grown hc6 hg6 hp hsz1;have ST6:=hide st6;have s1:=Zaa st6.box 1;have hbx:=Zab st6.box;simp at s1
   clear hc6 hg6 st6 ST5;by_cases h12:(ls.length:Int)<12
   ·go_wp2_with fail
    refine (Zfd _ ls ⟨1+x,m+1,1+c,r⟩ _ (by omega) (Zar (ST6.out.alloc _).o1)).mono ?_
    rintro e w7 ⟨v',rfl,o7,b7⟩;obtain⟨b2,c2,rfl⟩:=Zbh.shape (Zar o7);have st7:=(ST6.out.alloc _).put1 b7 o7 hp hsz1;have t1:=Zaa ((ST6.out.alloc (.cells #[.int .i64 (1+x),.int .i64 (m+1),.int .i64 (1+c),.int .i64 r] 32)).below b7).box 1;have f1:=Zae ((ST6.out.alloc (.cells #[.int .i64 (1+x),.int .i64 (m+1),.int .i64 (1+c),.int .i64 r] 32)).below b7).box 1;simp at t1
    have ST7:=hide st7;have hr7:=Zds HR.out (ZdS (n:=2+y0) (c:=1+c) (r:=r) ⟨by omega,by omega⟩ hab.1 hab.2.1 hab.2.2 ⟨by omega,by omega⟩ ⟨hr0,hr1⟩)
    have HR7:=hide hr7;have hl7:=Zff ls ⟨1+x,m+1,1+c,r⟩;have HL7:=hide hl7;clear o7 b7 st7 hr7 hl7 ST6
    go_wp2
    exact⟨⟨k+1,_,ZfF ls ⟨1+x,m+1,1+c,r⟩,by omega,by go_num,ST7.out,HR7.out,by have:=HL7.out;omega⟩,by simp [intOf];omega⟩
   ·go_wp2
    exact⟨⟨k+1,_,ls,by omega,by go_num,ST6.out.alloc _,HR.out,hll⟩,by simp [intOf];omega⟩
  ·have hab:1<=1+x2/\1+x2<1+x/\1+x<=2+y0:=by
    clear ST4 s0 s1 HR
    (try simp only [beq_eq_false_iff_ne,ne_eq,beq_iff_eq] at *)
    omega
   refine (Zby p a len cap 4 _ ST4.out.cur (by omega) (by omega)).mono ?_
   rintro e w5 ⟨c,rfl,hc0,hc9,hc5,hg5⟩;have st5:=ST4.out.grown hc5 hg5 hp hsz1;have ST5:=hide st5;have hp5:=Zcc st5.cur;clear hc5 hg5 st5 ST4 s0 s1
   go_wp2_with fail
   refine (ZdZ (fun z=>0<=z/\z<=2) p a len cap w5.heap.size 4 _ (Zb9 ST5.out.cur _) (by omega) (by omega) (by omega) (Zdl w5)).mono ?_
   rintro e w6 ⟨r,rfl,⟨hr0,hr1⟩,hc6,hg6⟩;have st6:=(ST5.out.alloc _).grown hc6 hg6 hp hsz1;have ST6:=hide st6;have s1:=Zaa st6.box 1;have hbx:=Zab st6.box;simp at s1
   clear hc6 hg6 st6 ST5;by_cases h12:(ls.length:Int)<12
   ·go_wp2_with fail
    refine (Zfd _ ls ⟨1+x2,1+x,1+c,r⟩ _ (by omega) (Zar (ST6.out.alloc _).o1)).mono ?_
    rintro e w7 ⟨v',rfl,o7,b7⟩;obtain⟨b2,c2,rfl⟩:=Zbh.shape (Zar o7);have st7:=(ST6.out.alloc _).put1 b7 o7 hp hsz1;have t1:=Zaa ((ST6.out.alloc (.cells #[.int .i64 (1+x2),.int .i64 (1+x),.int .i64 (1+c),.int .i64 r] 32)).below b7).box 1;have f1:=Zae ((ST6.out.alloc (.cells #[.int .i64 (1+x2),.int .i64 (1+x),.int .i64 (1+c),.int .i64 r] 32)).below b7).box 1;simp at t1
    have ST7:=hide st7;have hr7:=Zds HR.out (ZdS (n:=2+y0) (c:=1+c) (r:=r) ⟨by omega,by omega⟩ hab.1 hab.2.1 hab.2.2 ⟨by omega,by omega⟩ ⟨hr0,hr1⟩)
    have HR7:=hide hr7;have hl7:=Zff ls ⟨1+x2,1+x,1+c,r⟩;have HL7:=hide hl7;clear o7 b7 st7 hr7 hl7 ST6
    go_wp2
    exact⟨⟨k+1,_,ZfF ls ⟨1+x2,1+x,1+c,r⟩,by omega,by go_num,ST7.out,HR7.out,by have:=HL7.out;omega⟩,by simp [intOf];omega⟩
   ·go_wp2
    exact⟨⟨k+1,_,ls,by omega,by go_num,ST6.out.alloc _,HR.out,hll⟩,by simp [intOf];omega⟩
  ·have hab:1<=1+x/\1+x<1+x2/\1+x2<=2+y0:=by
    clear ST4 s0 s1 HR
    (try simp only [beq_eq_false_iff_ne,ne_eq,beq_iff_eq] at *)
    omega
   refine (Zby p a len cap 4 _ ST4.out.cur (by omega) (by omega)).mono ?_
   rintro e w5 ⟨c,rfl,hc0,hc9,hc5,hg5⟩;have st5:=ST4.out.grown hc5 hg5 hp hsz1;have ST5:=hide st5;have hp5:=Zcc st5.cur;clear hc5 hg5 st5 ST4 s0 s1
   go_wp2_with fail
   refine (ZdZ (fun z=>0<=z/\z<=2) p a len cap w5.heap.size 4 _ (Zb9 ST5.out.cur _) (by omega) (by omega) (by omega) (Zdl w5)).mono ?_
   rintro e w6 ⟨r,rfl,⟨hr0,hr1⟩,hc6,hg6⟩;have st6:=(ST5.out.alloc _).grown hc6 hg6 hp hsz1;have ST6:=hide st6;have s1:=Zaa st6.box 1;have hbx:=Zab st6.box;simp at s1
   clear hc6 hg6 st6 ST5;by_cases h12:(ls.length:Int)<12
   ·go_wp2_with fail
    refine (Zfd _ ls ⟨1+x,1+x2,1+c,r⟩ _ (by omega) (Zar (ST6.out.alloc _).o1)).mono ?_
    rintro e w7 ⟨v',rfl,o7,b7⟩;obtain⟨b2,c2,rfl⟩:=Zbh.shape (Zar o7);have st7:=(ST6.out.alloc _).put1 b7 o7 hp hsz1;have t1:=Zaa ((ST6.out.alloc (.cells #[.int .i64 (1+x),.int .i64 (1+x2),.int .i64 (1+c),.int .i64 r] 32)).below b7).box 1;have f1:=Zae ((ST6.out.alloc (.cells #[.int .i64 (1+x),.int .i64 (1+x2),.int .i64 (1+c),.int .i64 r] 32)).below b7).box 1;simp at t1
    have ST7:=hide st7;have hr7:=Zds HR.out (ZdS (n:=2+y0) (c:=1+c) (r:=r) ⟨by omega,by omega⟩ hab.1 hab.2.1 hab.2.2 ⟨by omega,by omega⟩ ⟨hr0,hr1⟩)
    have HR7:=hide hr7;have hl7:=Zff ls ⟨1+x,1+x2,1+c,r⟩;have HL7:=hide hl7;clear o7 b7 st7 hr7 hl7 ST6
    go_wp2
    exact⟨⟨k+1,_,ZfF ls ⟨1+x,1+x2,1+c,r⟩,by omega,by go_num,ST7.out,HR7.out,by have:=HL7.out;omega⟩,by simp [intOf];omega⟩
   ·go_wp2
    exact⟨⟨k+1,_,ls,by omega,by go_num,ST6.out.alloc _,HR.out,hll⟩,by simp [intOf];omega⟩
theorem Zo1 (p:Nat)(a:Option Addr)(len cap:Nat)(w:World)(hc:Cur w p a len cap):
  Calls Tryz.prog 15 #[.pointer (some ⟨p,0,none⟩)] w fun e w'=>∃ (x:NetD) (v1 v2:Value),e=.returned (.agg #[.int .i64 x.n,v1,v2])/\Za2 x=true/\w'.ownsRow w.heap.size 32 4 v1 x.ls.length (flat lkE x.ls)/\w'.ownsRow w.heap.size 46 4 v2 x.ts.length (flat thE x.ts)/\Cur w' p a len cap/\Below p w w':=by
 refine (ZnV p a len cap w hc).mono ?_
 rintro e w' ⟨x,v1,v2,h1,h2,h3,h4,h5,h6,_⟩;exact⟨x,v1,v2,h1,h2,h3,h4,h5,h6⟩
theorem Cur.appended {w w':World}{p:Nat}{a:Option Addr}{len cap:Nat}{v:Value}{base:Nat}{e:TypeId}{n:Nat}{xs:List Value}(o:Obj)(h:Cur w p a len cap)(hown:w.ownsRow base e 1 v n xs)(hb:p<base)(hg:(w.alloc o).grownBy w' v.ownBlock):Cur w' p a len cap:=by
 have h1:Cur (w.alloc o) p a len cap:=h.grown (row:=none) ⟨rfl,rfl,rfl,by simp,fun k hk _=>Below.heap_alloc _ _ _ hk⟩ (fun b _=>by simp)
 refine h1.grown hg (fun b hbp he=>?_)
 have:=(hown.lt b he.symm).1;omega
theorem Tryz.infoB:(Tryz.prog.info? 4).map (fun i=>(i.zero,i.size,i.bytes))=some (some (.bool false),1,1):=by kernel_rfl
theorem new_at (p:Nat)(a:Option Addr)(len cap:Nat)(w:World)(hp:w.heap.size=p)(hc:Code w a len w.heap.size):
  Calls Tryz.prog 14 #[.slice a len cap] w fun e w'=>e=.returned (.pointer (some ⟨p,0,none⟩))/\Cur w' p a len cap/\Below p w w':=by
 subst hp;exact Zo3 a len cap w hc
theorem Zdb {P:Program}(w:World){ops:Array Oper}{rest:List Oper}{o:Oper}{a:Act}{Q:Exit->Act->World->Prop}(hgd:o.guard=none)(s x:Operand)(t:TypeId)
  (ho:o.op=.call { callee:=.builtin .append,args:=#[s,x],argTypes:=#[t,t] }) (base:Nat) (e:TypeId) (ht:P.underlying t=some (.slice e))
  (hinfo:(P.info? e).map (fun i=>(i.zero,i.size,i.bytes))=some (some (.bool false),1,1))
  (v:Value) (l:List Bool) (y:Bool) (hs:a.eval s=v) (hown:w.ownsRow base e 1 v l.length (flat blE l))
  (ad:Addr) (c:Nat) (hx:a.eval x=.slice (some ad) 1 c) (hnews:∀ j u,(blE y)[j]? = some u->w.cell? (ad.add j)=some u)
  (hl:l.length+1<=1000000000) (hbase:base<=w.heap.size)
  (h:∀ v' w' l',Hid (l'=l++[y])->w'.ownsRow base e 1 v' l'.length (flat blE l')->w.grownBy w' v.ownBlock->(v'.ownBlock=v.ownBlock\/v'.ownBlock=some w.heap.size)->wpList P ops Q rest (a.put o.dst v') w'):wpList P ops Q (o::rest) a w:=by
 obtain⟨i0,hi,hz0,hz1,hz2⟩:=info_parts hinfo;refine wpList_append_own_at w hgd s x t ho base e i0 (.bool false) 1 1 ht hi hz0 hz1 hz2 rfl (by decide) v l.length (flat blE l) hs hown ad 1 c (blE y) hx rfl hnews (ZlW y) (by unfold maxLen;omega) (by omega) hbase ?_
 intro v' w' h1 h2 _ h4;have e1:flat blE l++blE y=flat blE (l++[y]):=by rw [ZaD];simp [flat]
 rw [e1] at h1;exact h v' w' (l++[y]) rfl (by simpa using h1) h2 h4
theorem Zhq {w w':World}{base size z p:Nat}{e:TypeId}{v:Value}{n:Nat}{xs:List Value}(h:w.ownsRow base e size v n xs)(hz:w.heap.size<=z)(hp:p<base)(hk:∀ b,b<z->b≠p->w'.heap[b]? = w.heap[b]?):w'.ownsRow base e size v n xs:=by
 refine⟨h.1,?_⟩
 rcases h.2 with h2 | ⟨g,cap,cur,hv,hg,hh,r⟩
 ·exact .inl h2
 ·have:=Zab hh
  exact .inr ⟨g,cap,cur,hv,hg,by rw [hk g (by omega) (by omega)];exact hh,r⟩
theorem Zh5 {x:NetD}(h:Za2 x=true):1<=x.n/\x.n<=6:=by
 simp [Za2,inB] at h
 omega
theorem ZkA {x:NetD}(h:Za2 x=true):x.ls.length<=12/\x.ts.length<=4:=by
 simp [Za2,Zer,Zdf] at h
 omega
structure DSt (w w5 wr:World) (p z:Nat) (a:Option Addr) (len cap:Nat):Prop where
 cur:Cur wr p a len cap
 bel:Below w.heap.size w wr
 kept:∀ b,b<z+1->b≠p->wr.heap[b]? = w5.heap[b]?
 size:z+1<=wr.heap.size
theorem DSt.grown {w w5 wr w':World}{p z:Nat}{a:Option Addr}{len cap:Nat}(h:DSt w w5 wr p z a len cap)(hc:Cur w' p a len cap)(hg:wr.grownBy w' (some p))(hp:w.heap.size<=p):DSt w w5 w' p z a len cap where
 cur:=hc
 bel:=h.bel.grown hg h.bel.size (fun k hk=>by simp at hk;omega)
 kept:=fun b hb hbp=>by rw [hg.block b (by have:=h.size;omega) (by simp;exact hbp)];exact h.kept b hb hbp
 size:=Nat.le_trans h.size hg.size
theorem DSt.alloc {w w5 wr:World}{p z:Nat}{a:Option Addr}{len cap:Nat}(h:DSt w w5 wr p z a len cap)(o:Obj):DSt w w5 (wr.alloc o) p z a len cap where
 cur:=Zb9 h.cur o
 bel:=h.bel.alloc h.bel.size o
 kept:=fun b hb hbp=>by rw [Below.heap_alloc _ _ _ (by have:=h.size;omega)];exact h.kept b hb hbp
 size:=by have:=h.size;simp;omega
theorem DSt.appended {w w5 wr w':World}{p z:Nat}{a:Option Addr}{len cap:Nat}{v:Value}{e:TypeId}{n:Nat}{xs:List Value}(o:Obj)(h:DSt w w5 wr p z a len cap)(hown:wr.ownsRow (z+1) e 1 v n xs)(hp:p<z)(hw:w.heap.size<=z)(hg:(wr.alloc o).grownBy w' v.ownBlock):DSt w w5 w' p z a len cap:=
 have h1:=h.alloc o
 {cur:=h.cur.appended o hown (by omega) hg
  bel:=h1.bel.grown hg h1.bel.size (fun k hk=>by have:=(hown.lt k hk).1;omega)
  kept:=fun b hb hbp=>by
   rw [hg.block b (by have:=h1.size;omega) (fun he=>by have:=(hown.lt b he.symm).1;omega)]
   exact h1.kept b hb hbp
  size:=Nat.le_trans h1.size hg.size }
theorem ZkX (a:Option Addr)(len cap:Nat)(w:World)(hc:Code w a len w.heap.size):
  Calls Tryz.prog 5 #[.slice a len cap] w fun e w'=>∃ (x:NetD) (v y z:Value) (ys zs:List Bool),e=.returned (.tuple #[v,y,z])/\Za2 x=true/\ZkR w' v x w'.heap.size/\Hid (Zb1 w' y ys w'.heap.size/\Zb1 w' z zs w'.heap.size/\ys.length=x.ls.length/\(zs.length:Int)=x.n)/\Below w.heap.size w w':=by
 have HC:=hide hc;clear hc
 go_enter Tryz.func5,Tryz.ntmps5
 go_wp2_with fail
 refine (new_at (w.heap.size+1) a len cap _ (by simp) (ZkW HC.out ((Below.refl _ _).alloc (Nat.le_refl _) _))).mono ?_
 rintro e w1 ⟨rfl,hc1,hb1⟩;have hr1:w1.heap[w.heap.size]? = some (.cells #[.int .i64 0,.slice none 0 0,.slice none 0 0] 27):=by rw [hb1.block _ (by omega)];exact heap_alloc_new w _
 have B1:Below w.heap.size w w1:=((Below.refl _ _).alloc (Nat.le_refl _) _).trans (hb1.mono (by omega))
 obtain⟨p,hp⟩:∃ p,p=w.heap.size+1:=⟨_,rfl⟩;rw [<-hp] at hc1 hb1 |-;have hp1:w.heap.size<p:=by omega
 clear hp;have hpw:=Zcc hc1;have HCC:=hide hc1;have HR1:=hide hr1;clear hb1 hc1 hr1
 go_wp2_with fail
 refine (Zo1 p a len cap _ HCC.out).mono ?_
 rintro e w2 ⟨x,v1,v2,rfl,hok,o1,o2,hc2,hb2⟩;obtain⟨b1,c1,rfl⟩:=Zbh.shape (Zar o1);obtain⟨b2,c2,rfl⟩:=Zbv.shape (Zar o2);have hz2:w1.heap.size<=w2.heap.size:=hb2.size;have hr2:w2.heap[w.heap.size]? = some (.cells #[.int .i64 0,.slice none 0 0,.slice none 0 0] 27):=by rw [hb2.block _ (by omega)];exact HR1.out
 have B2:Below w.heap.size w w2:=B1.trans (hb2.mono (by omega))
 have HOK:=hide hok;have O1:=hide o1;have O2:=hide o2;have HC2:=hide hc2;have HR2:=hide hr2;clear hok o1 o2 hc2 hr2 hb2 HR1 HCC B1 HC;obtain⟨w5,hw5⟩:∃ w5,w5=w2.alloc (.cells #[.int .i64 x.n,.slice b1 x.ls.length c1,.slice b2 x.ts.length c2] 27):=⟨_,rfl⟩;have st5:DSt w w5 (((w2.alloc (.cells #[.int .i64 x.n,.slice b1 x.ls.length c1,.slice b2 x.ts.length c2] 27)).alloc (.cells #[] 4)).alloc (.cells #[] 4)) p w2.heap.size a len cap:=by
  rw [<-hw5];refine DSt.alloc (DSt.alloc ⟨?_,?_,fun _ _ _=>rfl,?_⟩ _) _
  ·rw [hw5];exact Zb9 HC2.out _
  ·rw [hw5];exact B2.alloc B2.size _
  ·rw [hw5];simp
 have ST5:=hide st5;have hbx:w5.heap[w2.heap.size]? = some (.cells #[.int .i64 x.n,.slice b1 x.ls.length c1,.slice b2 x.ts.length c2] 27):=by rw [hw5];exact heap_alloc_new w2 _
 have HBX:=hide hbx;have HW5:=hide hw5;clear st5 hbx hw5;obtain⟨z,hz⟩:∃ z,z=w2.heap.size:=⟨_,rfl⟩;have hzz:p<z:=by omega
 have hzw:w.heap.size<=z:=by omega
 have OB:(((w2.alloc (.cells #[.int .i64 x.n,.slice b1 x.ls.length c1,.slice b2 x.ts.length c2] 27)).alloc (.cells #[] 4)).alloc (.cells #[] 4)).ownsRow (z+1) 4 1 (.slice (some ⟨z+1,0,none⟩) 0 0) 0 []/\(((w2.alloc (.cells #[.int .i64 x.n,.slice b1 x.ls.length c1,.slice b2 x.ts.length c2] 27)).alloc (.cells #[] 4)).alloc (.cells #[] 4)).heap[z+2]? = some (.cells #[] 4):=by
  refine⟨?_,?_⟩
  ·have h:=(World.ownsRow_lit (base:=z+1) (e:=4) (size:=1) (w2.alloc (.cells #[.int .i64 x.n,.slice b1 x.ls.length c1,.slice b2 x.ts.length c2] 27)) #[] 0 (by simp;omega) (by decide) rfl).alloc (.cells #[] 4)
   simpa [hz] using h
  ·have h:=heap_alloc_new ((w2.alloc (.cells #[.int .i64 x.n,.slice b1 x.ls.length c1,.slice b2 x.ts.length c2] 27)).alloc (.cells #[] 4)) (.cells #[] 4)
   simpa [hz] using h
 obtain⟨ob1,ob2⟩:=OB;have OB1:=hide ob1;have OB2:=hide ob2;clear ob1 ob2;have HZ:=hide hz
 go_wp2
 rw [<-HZ.out];rw [<-HZ.out] at ST5 HBX;clear hz
 go_loopw [7,9] (fun u i wr=>∃ (k:Nat) (l:List Bool),k<=x.ls.length/\i=.int .i64 k/\l.length=k/\DSt w w5 wr p z a len cap/\wr.ownsRow (z+1) 4 1 u l.length (flat blE l)/\wr.heap[z+2]? = some (.cells #[] 4)/\u.ownBlock≠some (z+2)) (fun _ i _=>x.ls.length-(intOf i).toNat)
 case atStart=>exact ⟨0,[],by omega,rfl,rfl,ST5.out,OB1.out,OB2.out,by simp [Value.ownBlock]⟩
 case round=>
  clear ST5 OB1 OB2;obtain⟨k,l,hk,rfl,hlk,st,hown,hz3,hne⟩:=hrel;have hbx:wr.heap[z]? = some (.cells #[.int .i64 x.n,.slice b1 x.ls.length c1,.slice b2 x.ts.length c2] 27):=by rw [st.kept z (by omega) (by omega)];exact HBX.out
  have g1:=Zaa hbx 1;simp at g1
  have hzs:=Zab hz3;have hll:l.length<=k:=by omega
  have HLK:=hide hlk;have HZ3:=hide hz3;have HNE:=hide hne;have OW:=hide hown;have ST:=hide st;clear hlk hz3 hne hown st hbx;have hl12:=(ZkA HOK.out).1;by_cases hlt:k<x.ls.length
  ·have hlt':(k:Int)<(x.ls.length:Int):=by omega
   go_wp2_with fail
   refine (Zh7 p a len cap 6 _ ST.out.cur (by omega) (by omega)).mono ?_
   rintro e w6 ⟨q,rfl,hc6,hg6⟩;have st6:=ST.out.grown hc6 hg6 (by omega)
   have o6:=ZcQ OW.out hg6 (by omega)
   have h63:w6.heap[z+2]? = some (.cells #[] 4):=by rw [hg6.block _ hzs (by simp;omega)];exact HZ3.out
   have hs6:=Zab h63;have ST6:=hide st6;have OW6:=hide o6;have H63:=hide h63;clear hc6 hg6 st6 o6 h63 ST OW HZ3
   go_wp2_with (first
    | (at_builtin;refine Zdb _ rfl _ _ 28 rfl (z+1) 4 Tryz.underlying28 Tryz.infoB u7 l (!q) rfl (OW6.out.alloc _) ⟨w6.heap.size,0,none⟩ 1 rfl (Zap (cs:=blE (!q))) (by omega) (by simp;omega) ?_))
   intro v' w7 l' hl' hown' hgrow hblk;have st7:=ST6.out.appended _ OW6.out hzz hzw hgrow;have h73:w7.heap[z+2]? = some (.cells #[] 4):=by rw [hgrow.block _ (by simp;omega) (fun h=>HNE.out h.symm),Below.heap_alloc _ _ _ hs6];exact H63.out
   have hne':v'.ownBlock≠some (z+2):=by
    rcases hblk with h | h
    ·rw [h];exact HNE.out
    ·rw [h];simp;omega
   have ST7:=hide st7;have H73:=hide h73;have HNE7:=hide hne';have OW7:=hide hown';clear st7 h73 hne' hown' hgrow hblk ST6 OW6 H63
   go_wp2
   go_roundw
   case rel=>exact ⟨k+1,l',by omega,by go_num,by rw [hl'.out];simp [HLK.out],ST7.out,OW7.out,H73.out,HNE7.out⟩
   case measure=>simp [intOf];omega
  ·have hlt':¬(k:Int)<(x.ls.length:Int):=by omega
   obtain⟨wo,rfl⟩:∃ wo:World,wo=wr:=⟨_,rfl⟩
   go_wp2
   have ow8:wo.ownsRow (z+1) 4 1 (.slice (some ⟨z+2,0,none⟩) 0 0) 0 []:=⟨rfl,.inr ⟨z+2,0,#[],rfl,by omega,HZ3.out,Nat.le_refl _,by decide,rfl,rfl⟩⟩
   have OW8:=hide ow8;have HLL:=hide (show l.length=x.ls.length by have:=HLK.out;omega)
   have OWL:=hide OW.out;have HAP:=hide (show ∀ b,u7.ownBlock=some b->(Value.slice (some ⟨z+2,0,none⟩) 0 0).ownBlock≠some b from fun b hb he=>by simp [Value.ownBlock] at he;subst he;exact HNE.out hb)
   obtain⟨lsb,hlsb⟩:∃ m,m=l:=⟨_,rfl⟩;rw [<-hlsb] at HLL OWL;clear ow8 hlt hlt' hk g1 hll HLK OW HNE hlsb
   go_loopw [8,10] (fun u i wr=>∃ (k:Nat) (l:List Bool),(k:Int)<=x.n/\i=.int .i64 k/\l.length=k/\DSt w w5 wr p z a len cap/\wr.ownsRow (z+1) 4 1 u l.length (flat blE l)/\wr.ownsRow (z+1) 4 1 u7 lsb.length (flat blE lsb)/\(∀ b,u7.ownBlock=some b->u.ownBlock≠some b)) (fun _ i _=>7-(intOf i).toNat)
   case atStart=>exact ⟨0,[],by have:=Zh5 HOK.out;omega,rfl,rfl,ST.out,OW8.out,OWL.out,HAP.out⟩
   case round=>
    clear ST OW8 HZ3 hzs;clear OWL HAP;obtain⟨k,l,hk,rfl,hlk,st,hown,hownl,hap⟩:=hrel;have OWL:=hide hownl;have HAP:=hide hap;clear hownl hap;have hbx:wr.heap[z]? = some (.cells #[.int .i64 x.n,.slice b1 x.ls.length c1,.slice b2 x.ts.length c2] 27):=by rw [st.kept z (by omega) (by omega)];exact HBX.out
    have g0:=Zaa hbx 0;have g1:=Zaa hbx 1;have g2:=Zaa hbx 2;simp at g0 g1 g2
    have hll:l.length<=k:=by omega
    have HLK:=hide hlk;have OW:=hide hown;have ST:=hide st;clear hlk hown st hbx;have hn6:=Zh5 HOK.out;by_cases hlt:(k:Int)<x.n
    ·go_wp2_with fail
     refine (Zh7 p a len cap 8 _ ST.out.cur (by omega) (by omega)).mono ?_
     rintro e w6 ⟨q,rfl,hc6,hg6⟩;have st6:=ST.out.grown hc6 hg6 (by omega)
     have o6:=ZcQ OW.out hg6 (by omega)
     have ol6:=ZcQ OWL.out hg6 (by omega)
     have OL6:=hide ol6;clear ol6 OWL;have hs6:=st6.size;have ST6:=hide st6;have OW6:=hide o6;clear hc6 hg6 st6 o6 ST OW
     go_wp2_with (first
      | (at_builtin;refine Zdb _ rfl _ _ 28 rfl (z+1) 4 Tryz.underlying28 Tryz.infoB u8 l (!q) rfl (OW6.out.alloc _) ⟨w6.heap.size,0,none⟩ 1 rfl (Zap (cs:=blE (!q))) (by omega) (by simp;omega) ?_))
     intro v' w7 l' hl' hown' hgrow hblk;have st7:=ST6.out.appended _ OW6.out hzz hzw hgrow;have OL7:=hide (Zao (OL6.out.alloc _) (fun j hj=>hgrow.block j ((OL6.out.alloc _).lt j hj).2 (fun e=>HAP.out j hj e.symm)))
     have HAP7:=hide (show ∀ b,u7.ownBlock=some b->v'.ownBlock≠some b from fun b hb he=>by
      rcases hblk with h | h
      ·rw [h] at he;exact HAP.out b hb he
      ·rw [h] at he
       have:=(OL6.out.lt b hb).2;simp at he
       omega)
     clear HAP OL6;have ST7:=hide st7;have OW7:=hide hown';clear st7 hown' hgrow hblk ST6 OW6
     go_wp2
     go_roundw
     case rel=>exact ⟨k+1,l',by omega,by go_num,by rw [hl'.out];simp [HLK.out],ST7.out,OW7.out,OL7.out,HAP7.out⟩
     case measure=>simp [intOf];omega
    ·have hr:wr.heap[w.heap.size]? = some (.cells #[.int .i64 0,.slice none 0 0,.slice none 0 0] 27):=by
      rw [ST.out.kept _ (by omega) (by omega),HW5.out,Below.heap_alloc _ _ _ (Zab HR2.out)];exact HR2.out
     have r0:=Zaa hr 0;have r1:=Zaa hr 1;have r2:=Zaa hr 2;have f0:=Zae hr 0;have f1:=Zae hr 1;have f2:=Zae hr 2;simp at r0 r1 r2
     have HR:=hide hr;clear hr
     go_wp2
     obtain⟨W,hW⟩:∃ W,W=(((wr.setCell ⟨w.heap.size,0,none⟩ (.int .i64 x.n)).setCell ⟨w.heap.size,1,none⟩ (.slice b1 x.ls.length c1)).setCell ⟨w.heap.size,2,none⟩ (.slice b2 x.ts.length c2)):=⟨_,rfl⟩;have hfin:W.heap[w.heap.size]? = some (.cells #[.int .i64 x.n,.slice b1 x.ls.length c1,.slice b2 x.ts.length c2] 27):=by
      have k1:=heap_setCell_same _ _ 0 _ _ (.int .i64 x.n) HR.out;have k2:=heap_setCell_same _ _ 1 _ _ (.slice b1 x.ls.length c1) k1;have k3:=heap_setCell_same _ _ 2 _ _ (.slice b2 x.ts.length c2) k2;rw [hW];exact k3
     have hkw:∀ b,b<z->b≠p->wr.heap[b]? = w2.heap[b]? := fun b hb hbp=>by
      rw [ST.out.kept b (by omega) hbp,HW5.out,Below.heap_alloc _ _ _ (by rw [<-HZ.out];exact hb)]
     have p1:W.ownsRow w1.heap.size 32 4 (.slice b1 x.ls.length c1) x.ls.length (flat lkE x.ls):=by
      rw [hW];exact ZaH (ZaH (ZaH (Zhq O1.out (by rw [<-HZ.out];exact Nat.le_refl _) hpw hkw) (by omega)) (by omega)) (by omega)
     have p2:W.ownsRow w1.heap.size 46 4 (.slice b2 x.ts.length c2) x.ts.length (flat thE x.ts):=by
      rw [hW];exact ZaH (ZaH (ZaH (Zhq O2.out (by rw [<-HZ.out];exact Nat.le_refl _) hpw hkw) (by omega)) (by omega)) (by omega)
     have BW:Below w.heap.size w W:=by
      rw [hW];exact ((ST.out.bel.setCell (by show w.heap.size<=w.heap.size;omega) _).setCell (by show w.heap.size<=w.heap.size;omega) _).setCell (by show w.heap.size<=w.heap.size;omega) _
     rw [<-hW];have NT:ZkR W (.agg #[.int .i64 x.n,.slice b1 x.ls.length c1,.slice b2 x.ts.length c2]) x W.heap.size:=⟨_,_,rfl,Zar p1,Zar p2⟩;have HNT:=hide NT;have HBL:=hide (show Zb1 W u7 lsb W.heap.size/\Zb1 W u8 l W.heap.size/\lsb.length=x.ls.length/\(l.length:Int)=x.n from ⟨Zar (by rw [hW];exact ZaH (ZaH (ZaH OWL.out (by omega)) (by omega)) (by omega)),Zar (by rw [hW];exact ZaH (ZaH (ZaH OW.out (by omega)) (by omega)) (by omega)),HLL.out,by have:=HLK.out;omega⟩)
     clear hW hkw p1 p2 NT r0 r1 r2 f0 f1 f2 HR;have r0:=Zaa hfin 0;have r1:=Zaa hfin 1;have r2:=Zaa hfin 2;simp at r0 r1 r2
     clear hfin
     (try simp only [Exit.inBlock,Exit.then])
     refine bodyPost_ret (v:=.tuple #[.agg #[.int .i64 x.n,.slice b1 x.ls.length c1,.slice b2 x.ts.length c2],u7,u8]) (by simp [results,Tryz.results5,go_sem,r0,r1,r2]) rfl ?_
     exact⟨x,_,_,_,rfl,HOK.out,HNT.out,⟨lsb,l,HBL⟩,BW⟩
end Go.Proofs.YtgdgkgmjpnbbcaaGreat
