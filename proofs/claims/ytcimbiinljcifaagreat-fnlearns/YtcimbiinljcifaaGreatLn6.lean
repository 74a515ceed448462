/-
  DrawNet BoolK CurA DrawRight HeardM HearUp NearK RecK MarkN RowsK
-/
import Derived.Test.YtcimbiinljcifaaGreatLn5
import Derived.Test.YtcimbiinljcifaaGreatLn1
import Derived.Test.YtcimbiinljcifaaGreatLn2
import Derived.Maps.AppendAt
import Derived.Test.YtcimbiinljcifaaGreatLn3
import Derived.Deep.RegionHeld3
namespace Go.Proofs.YtcimbiinljcifaaGreat
open Go.RowKit
set_option linter.unusedSimpArgs false
set_option linter.unusedVariables false
set_option maxRecDepth 100000
set_option maxHeartbeats 8000000
theorem ZcI (w:World):∀ k,k<4->∃ z:Int,(0<=z/\z<=2)/\(w.alloc (.cells #[.int .i64 0,.int .i64 0,.int .i64 1,.int .i64 2] 3)).cell? ⟨w.heap.size,k,none⟩=some (.int .i64 z):=by
 intro k hk;have h:=Zaa (heap_alloc_new w (.cells #[.int .i64 0,.int .i64 0,.int .i64 1,.int .i64 2] 3)) k
 match k,hk with
 | 0,_=>exact ⟨0,by omega,h⟩
 | 1,_=>exact ⟨0,by omega,h⟩
 | 2,_=>exact ⟨1,by omega,h⟩
 | 3,_=>exact ⟨2,by omega,h⟩
theorem Zlq (p:Nat)(a:Option Addr)(len cap:Nat)(w:World)(hc:Cur w p a len cap):
  Calls Tryz.prog 57 #[.pointer (some ⟨p,0,none⟩)] w fun e w'=>∃ (x:NetD) (v1 v2:Value),e=.returned (.agg #[.int .i64 x.n,v1,v2])/\ZaV x=true/\w'.ownsRow w.heap.size 127 4 v1 x.ls.length (flat lkE x.ls)/\w'.ownsRow w.heap.size 131 4 v2 x.ts.length (flat thE x.ts)/\Cur w' p a len cap/\Below p w w'/\w.grownBy w' (some p):=by
 have hp:=ZaQ hc;have HC:=hide hc;clear hc
 go_enter Tryz.func57,Tryz.ntmps57
 go_wp2_with fail
 refine (ZaB p a len cap 4 _ (ZaX HC.out _) (by omega) (by omega)).mono ?_
 rintro e w1 ⟨y0,rfl,hy0,hy1,hc1,hg1⟩;have hsz1:w.heap.size<w1.heap.size:=by have:=hg1.size;simp at this;omega
 have st0:NetSt w (w1.alloc (.cells #[.int .i64 (2+y0),.slice none 0 0,.slice none 0 0] 27)) p w.heap.size w1.heap.size a len cap (2+y0) (.slice none 0 0) (.slice none 0 0) [] []:=
  {cur:=ZaX hc1 _
   bel:=(((Below.refl p w).alloc (by omega) _).grown hg1 (by simp;omega) (fun k hk=>by simp at hk;omega)).alloc (by omega) _
   new:=Nat.le_refl _
   gro:=Zaj (Zaj (World.grownBy_alloc w _ _) hg1) (World.grownBy_alloc w1 _ _)
   box:=heap_alloc_new w1 _
   res:=by
    rw [Below.heap_alloc _ _ _ hsz1,hg1.block _ (by simp) (by simp;omega)]
    exact heap_alloc_new w _
   o1:=⟨by simp [flat],.inl ⟨rfl,rfl⟩⟩
   o2:=⟨by simp [flat],.inl ⟨rfl,rfl⟩⟩ }
 have ST0:=hide st0;clear hc1 hg1 st0 HC
 go_wp2
 go_loopw [4] (fun i wr=>∃ (k:Nat) (v1:Value) (ls:List Lk),k<=7/\i=.int .i64 k/\NetSt w wr p w.heap.size w1.heap.size a len cap (2+y0) v1 (.slice none 0 0) ls []/\Ziz (2+y0) ls/\ls.length<=12) (fun i _=>8-(intOf i).toNat)
 case atStart=>exact ⟨0,_,[],by omega,rfl,ST0.out,⟨fun x hx=>by simp at hx,List.Pairwise.nil⟩,by simp⟩
 case round=>
  clear ST0;obtain⟨k,v1,ls,hk,rfl,st,hr,hll⟩:=hrel;obtain⟨b1,c1,rfl⟩:=Za0.shape (Zaq st.o1);have g0:=Zaa st.box 0;simp at g0
  have STD:=hide st.drew;have HR:=hide hr;clear hr st
  go_wp2
  go_region_held3 (fun W=>W.cell? ⟨w1.heap.size,0,none⟩=some (.int .i64 (2+y0))) (first | go_keep | exact hg2.cell (by assumption) (by simp;omega)) (first | (go_at_call 26;refine (ZaB p a len cap 3 _ STD.out.cur ?_ ?_).mono ?_;omega;omega;rintro e w2 ⟨y,rfl,hy2,hy3,hc2,hg2⟩))
  have st2:=STD.out.grown hc2 hg2 hp hsz1;have ST2:=hide st2;have s0:=Zaa st2.box 0;simp at s0
  clear hc2 hg2 st2 STD g0;rw [show IntKind.i64.wrap (2+y0+y)=2+y0+y from ZaD _ (by omega) (by omega)]
  by_cases hcond:(k:Int)<2+y0+y
  case neg=>
   have wo:World:=wr
   go_wp2
   clear hcond hk
   go_loopw [8] (fun i wr=>∃ (k:Nat) (v2:Value) (ts:List Th),k<=2/\i=.int .i64 k/\NetSt w wr p w.heap.size w1.heap.size a len cap (2+y0) (.slice b1 ls.length c1) v2 ls ts/\ZiA (2+y0) ts/\ts.length<=k) (fun i _=>3-(intOf i).toNat)
   case atStart=>exact ⟨0,_,[],by omega,rfl,ST2.out,⟨fun x hx=>by simp at hx,List.Pairwise.nil⟩,by simp⟩
   case round=>
    clear ST2 s0;obtain⟨k,v2,ts,hk,rfl,st,hrt,htl⟩:=hrel;obtain⟨b2,c2,rfl⟩:=Zbf.shape (Zaq st.o2);have ST:=hide st;have HRT:=hide hrt;clear st hrt
    go_wp2_with fail
    refine (ZaB p a len cap 3 _ ST.out.cur (by omega) (by omega)).mono ?_
    rintro e w3 ⟨y3,rfl,hy30,hy31,hc3,hg3⟩;have st3:=ST.out.grown hc3 hg3 hp hsz1;clear hc3 hg3 ST;have e0:=st3.c0;have e1:=st3.c1;have e2:=st3.c2;by_cases hcond:(k:Int)<y3
    ·have hk1:k<=1:=by omega
     have st4:=st3.drew;have d0:=st4.c0;have d2:=st4.c2;clear st3 e0 e1 e2
     go_wp2
     go_region_with (first | (go_at_call 26;refine (ZaB p a len cap _ _ (show NetSt w _ p w.heap.size w1.heap.size a len cap (2+y0) (.slice b1 ls.length c1) (.slice b2 ts.length c2) ls ts from by assumption).cur ?_ ?_).mono ?_;omega;omega;rintro e wx ⟨yy,rfl,hh0,hh1,hcc,hgg⟩;have hwr:IntKind.i64.wrap (1+yy)=1+yy:=ZaD _ (by omega) (by omega);have stx:=(show NetSt w _ p w.heap.size w1.heap.size a len cap (2+y0) (.slice b1 ls.length c1) (.slice b2 ts.length c2) ls ts from by assumption).grown hcc hgg hp hsz1;have ex0:=stx.c0;have ex2:=stx.c2;clear hcc hgg) | (go_at_call 59;refine (Zc2 p a len cap _ _ (show NetSt w _ p w.heap.size w1.heap.size a len cap (2+y0) (.slice b1 ls.length c1) (.slice b2 ts.length c2) ls ts from by assumption).cur ?_ ?_).mono ?_;omega;omega;rintro e wx ⟨ff,rfl,hcc,hgg⟩;have stx:=(show NetSt w _ p w.heap.size w1.heap.size a len cap (2+y0) (.slice b1 ls.length c1) (.slice b2 ts.length c2) ls ts from by assumption).grown hcc hgg hp hsz1;have ex0:=stx.c0;have ex2:=stx.c2;clear hcc hgg) | (go_at_call 98;refine (ZlC _ ts ⟨_,_,_,_⟩ _ ?_ (Zaq (show NetSt w _ p w.heap.size w1.heap.size a len cap (2+y0) (.slice b1 ls.length c1) (.slice b2 ts.length c2) ls ts from by assumption).o2)).mono ?_;omega;rintro e wy ⟨vv,rfl,oy,hby⟩;obtain⟨b3,c3,rfl⟩:=Zbf.shape (Zaq oy);have st8:=(show NetSt w _ p w.heap.size w1.heap.size a len cap (2+y0) (.slice b1 ls.length c1) (.slice b2 ts.length c2) ls ts from by assumption).below hby;have st9:=(show NetSt w _ p w.heap.size w1.heap.size a len cap (2+y0) (.slice b1 ls.length c1) (.slice b2 ts.length c2) ls ts from by assumption).put2 hby oy hp hsz1;have ex2:=st8.c2;have fx2:=Zae st8.box 2;clear oy hby st8))
     all_goals go_wp2
     all_goals exact ⟨⟨k+1,_,_,by omega,by go_num,st9,Zjz HRT.out (Zmt ⟨by omega,by omega⟩ ⟨by omega,by omega⟩ ⟨by omega,by omega⟩),Nat.le_trans (ZlD ts _) (by omega)⟩,by simp [intOf];omega⟩
    ·have r0:=Zaa st3.res 0
     have r1:=Zaa st3.res 1;have r2:=Zaa st3.res 2;have f0:=Zae st3.res 0;have f1:=Zae st3.res 1;have f2:=Zae st3.res 2;simp at r0 r1 r2
     go_wp2
     have hfin:(((w3.setCell ⟨w.heap.size,0,none⟩ (.int .i64 (2+y0))).setCell ⟨w.heap.size,1,none⟩ (.slice b1 ls.length c1)).setCell ⟨w.heap.size,2,none⟩ (.slice b2 ts.length c2)).heap[w.heap.size]? = some (.cells #[.int .i64 (2+y0),.slice b1 ls.length c1,.slice b2 ts.length c2] 27):=by
      have k1:=heap_setCell_same _ _ 0 _ _ (.int .i64 (2+y0)) st3.res;have k2:=heap_setCell_same _ _ 1 _ _ (.slice b1 ls.length c1) k1;have k3:=heap_setCell_same _ _ 2 _ _ (.slice b2 ts.length c2) k2;exact k3
     try simp only [Exit.inBlock,Exit.then]
     refine bodyPost_ret (results_cell_row rfl _ _ w.heap.size 27 #[.int .i64 (2+y0),.slice b1 ls.length c1,.slice b2 ts.length c2] (0,0) _ rfl hfin Tryz.underlying27 rfl (by kernel_rfl)) rfl ?_
     refine⟨⟨2+y0,ls,ts⟩,_,_,rfl,?_,?_,?_,?_,?_,?_⟩
     ·unfold ZaV
      simp only []
      rw [ZcK (by omega) (by omega),Zkd HR.out hll,ZjK HRT.out (by omega)]
      rfl
     ·exact Zal (Zau (Zau (Zau st3.o1 (by omega)) (by omega)) (by omega)) (by omega)
     ·exact Zal (Zau (Zau (Zau st3.o2 (by omega)) (by omega)) (by omega)) (by omega)
     ·exact ((st3.cur.grown (Zag _ _ _ _) (fun b hb=>by simp;omega)).grown (Zag _ _ _ _) (fun b hb=>by simp;omega)).grown (Zag _ _ _ _) (fun b hb=>by simp;omega)
     ·exact ((st3.bel.setCell (by show p<=w.heap.size;omega) _).setCell (by show p<=w.heap.size;omega) _).setCell (by show p<=w.heap.size;omega) _
     ·refine ⟨st3.gro.os,st3.gro.tape,st3.gro.output,by have:=st3.gro.size;simpa using this,fun b hb hne=>?_⟩
      rw [heap_setCell_other _ ⟨w.heap.size,2,none⟩ _ _ (by show b≠w.heap.size;omega),heap_setCell_other _ ⟨w.heap.size,1,none⟩ _ _ (by show b≠w.heap.size;omega),heap_setCell_other _ ⟨w.heap.size,0,none⟩ _ _ (by show b≠w.heap.size;omega)]
      exact st3.gro.block b hb hne
  have hk6:k<=6:=by omega
  go_wp2_with fail
  refine (ZaB p a len cap (2+y0) _ ST2.out.cur (by omega) (by omega)).mono ?_
  rintro e w3 ⟨x,rfl,hx0,hx1,hc3,hg3⟩;have st3:=ST2.out.grown hc3 hg3 hp hsz1;have ST3:=hide st3;have s0:=Zaa st3.box 0;simp at s0
  clear hc3 hg3 st3 ST2
  go_wp2_with fail
  refine (ZaB p a len cap (2+y0) _ ST3.out.cur (by omega) (by omega)).mono ?_
  rintro e w4 ⟨x2,rfl,hx2,hx3,hc4,hg4⟩;have st4:=ST3.out.grown hc4 hg4 hp hsz1;have ST4:=hide st4;have s0:=Zaa st4.box 0;have s1:=Zaa st4.box 1;simp at s0 s1
  clear hc4 hg4 st4 ST3;obtain⟨m,hm⟩:∃ m,(1+x).tmod (2+y0)=m:=⟨_,rfl⟩;have hm1:(1+x<2+y0/\m=1+x)\/(1+x=2+y0/\m=0):=by
   rw [<-hm,Int.tmod_eq_emod_of_nonneg (by omega)]
   by_cases h:1+x<2+y0
   ·exact .inl ⟨h,Int.emod_eq_of_lt (by omega) h⟩
   ·have e:1+x=2+y0:=by omega
    exact .inr ⟨e,by rw [e];exact Int.emod_self⟩
  have hy00:¬(2+y0=0):=by omega
  go_wp2_with fail
  ·have hab:1<=(k:Int)+1/\(k:Int)+1<(k:Int)+2/\(k:Int)+2<=2+y0:=by
    clear ST4 s0 s1 HR
    (try simp only [beq_eq_false_iff_ne,ne_eq,beq_iff_eq] at *)
    omega
   refine (ZaB p a len cap 4 _ ST4.out.cur (by omega) (by omega)).mono ?_
   rintro e w5 ⟨c,rfl,hc0,hc9,hc5,hg5⟩;have st5:=ST4.out.grown hc5 hg5 hp hsz1;have ST5:=hide st5;have hp5:=ZaQ st5.cur;clear hc5 hg5 st5 ST4 s0 s1
   go_wp2_with fail
   refine (Zco (fun z=>0<=z/\z<=2) p a len cap w5.heap.size 4 _ (ZaX ST5.out.cur _) (by omega) (by omega) (by omega) (ZcI w5)).mono ?_
   rintro e w6 ⟨r,rfl,⟨hr0,hr1⟩,hc6,hg6⟩;have st6:=(ST5.out.alloc _).grown hc6 hg6 hp hsz1;have ST6:=hide st6;have s1:=Zaa st6.box 1;have hbx:=Zab st6.box;simp at s1
   clear hc6 hg6 st6 ST5;by_cases h12:(ls.length:Int)<12
   ·go_wp2_with fail
    refine (Zd5 _ ls ⟨(k:Int)+1,(k:Int)+2,1+c,r⟩ _ (by omega) (Zaq (ST6.out.alloc _).o1)).mono ?_
    rintro e w7 ⟨v',rfl,o7,b7⟩;obtain⟨b2,c2,rfl⟩:=Za0.shape (Zaq o7);have st7:=(ST6.out.alloc _).put1 b7 o7 hp hsz1;have t1:=Zaa ((ST6.out.alloc (.cells #[.int .i64 ((k:Int)+1),.int .i64 ((k:Int)+2),.int .i64 (1+c),.int .i64 r] 127)).below b7).box 1;have f1:=Zae ((ST6.out.alloc (.cells #[.int .i64 ((k:Int)+1),.int .i64 ((k:Int)+2),.int .i64 (1+c),.int .i64 r] 127)).below b7).box 1;simp at t1
    have ST7:=hide st7;have hr7:=ZcM HR.out (Zde (n:=2+y0) (c:=1+c) (r:=r) ⟨by omega,by omega⟩ hab.1 hab.2.1 hab.2.2 ⟨by omega,by omega⟩ ⟨hr0,hr1⟩)
    have HR7:=hide hr7;have hl7:=Zd6 ls ⟨(k:Int)+1,(k:Int)+2,1+c,r⟩;have HL7:=hide hl7;clear o7 b7 st7 hr7 hl7 ST6
    go_wp2
    exact⟨⟨k+1,_,Zeq ls ⟨(k:Int)+1,(k:Int)+2,1+c,r⟩,by omega,by go_num,ST7.out,HR7.out,by have:=HL7.out;omega⟩,by simp [intOf];omega⟩
   ·go_wp2
    exact⟨⟨k+1,_,ls,by omega,by go_num,ST6.out.alloc _,HR.out,hll⟩,by simp [intOf];omega⟩
  ·have hab:1<=m+1/\m+1<1+x/\1+x<=2+y0:=by
    clear ST4 s0 s1 HR
    (try simp only [beq_eq_false_iff_ne,ne_eq,beq_iff_eq] at *)
    omega
   refine (ZaB p a len cap 4 _ ST4.out.cur (by omega) (by omega)).mono ?_
   rintro e w5 ⟨c,rfl,hc0,hc9,hc5,hg5⟩;have st5:=ST4.out.grown hc5 hg5 hp hsz1;have ST5:=hide st5;have hp5:=ZaQ st5.cur;clear hc5 hg5 st5 ST4 s0 s1
   go_wp2_with fail
   refine (Zco (fun z=>0<=z/\z<=2) p a len cap w5.heap.size 4 _ (ZaX ST5.out.cur _) (by omega) (by omega) (by omega) (ZcI w5)).mono ?_
   rintro e w6 ⟨r,rfl,⟨hr0,hr1⟩,hc6,hg6⟩;have st6:=(ST5.out.alloc _).grown hc6 hg6 hp hsz1;have ST6:=hide st6;have s1:=Zaa st6.box 1;have hbx:=Zab st6.box;simp at s1
   clear hc6 hg6 st6 ST5;by_cases h12:(ls.length:Int)<12
   ·go_wp2_with fail
    refine (Zd5 _ ls ⟨m+1,1+x,1+c,r⟩ _ (by omega) (Zaq (ST6.out.alloc _).o1)).mono ?_
    rintro e w7 ⟨v',rfl,o7,b7⟩;obtain⟨b2,c2,rfl⟩:=Za0.shape (Zaq o7);have st7:=(ST6.out.alloc _).put1 b7 o7 hp hsz1;have t1:=Zaa ((ST6.out.alloc (.cells #[.int .i64 (m+1),.int .i64 (1+x),.int .i64 (1+c),.int .i64 r] 127)).below b7).box 1;have f1:=Zae ((ST6.out.alloc (.cells #[.int .i64 (m+1),.int .i64 (1+x),.int .i64 (1+c),.int .i64 r] 127)).below b7).box 1;simp at t1
    have ST7:=hide st7;have hr7:=ZcM HR.out (Zde (n:=2+y0) (c:=1+c) (r:=r) ⟨by omega,by omega⟩ hab.1 hab.2.1 hab.2.2 ⟨by omega,by omega⟩ ⟨hr0,hr1⟩)
    have HR7:=hide hr7;have hl7:=Zd6 ls ⟨m+1,1+x,1+c,r⟩;have HL7:=hide hl7;clear o7 b7 st7 hr7 hl7 ST6
    go_wp2
    exact⟨⟨k+1,_,Zeq ls ⟨m+1,1+x,1+c,r⟩,by omega,by go_num,ST7.out,HR7.out,by have:=HL7.out;omega⟩,by simp [intOf];omega⟩
   ·go_wp2
    exact⟨⟨k+1,_,ls,by omega,by go_num,ST6.out.alloc _,HR.out,hll⟩,by simp [intOf];omega⟩
  ·have hab:1<=1+x/\1+x<m+1/\m+1<=2+y0:=by
    clear ST4 s0 s1 HR
    (try simp only [beq_eq_false_iff_ne,ne_eq,beq_iff_eq] at *)
    omega
   refine (ZaB p a len cap 4 _ ST4.out.cur (by omega) (by omega)).mono ?_
   rintro e w5 ⟨c,rfl,hc0,hc9,hc5,hg5⟩;have st5:=ST4.out.grown hc5 hg5 hp hsz1;have ST5:=hide st5;have hp5:=ZaQ st5.cur;clear hc5 hg5 st5 ST4 s0 s1
   go_wp2_with fail
   refine (Zco (fun z=>0<=z/\z<=2) p a len cap w5.heap.size 4 _ (ZaX ST5.out.cur _) (by omega) (by omega) (by omega) (ZcI w5)).mono ?_
   rintro e w6 ⟨r,rfl,⟨hr0,hr1⟩,hc6,hg6⟩;have st6:=(ST5.out.alloc _).grown hc6 hg6 hp hsz1;have ST6:=hide st6;have s1:=Zaa st6.box 1;have hbx:=Zab st6.box;simp at s1
   clear hc6 hg6 st6 ST5;by_cases h12:(ls.length:Int)<12
   ·go_wp2_with fail
    refine (Zd5 _ ls ⟨1+x,m+1,1+c,r⟩ _ (by omega) (Zaq (ST6.out.alloc _).o1)).mono ?_
    rintro e w7 ⟨v',rfl,o7,b7⟩;obtain⟨b2,c2,rfl⟩:=Za0.shape (Zaq o7);have st7:=(ST6.out.alloc _).put1 b7 o7 hp hsz1;have t1:=Zaa ((ST6.out.alloc (.cells #[.int .i64 (1+x),.int .i64 (m+1),.int .i64 (1+c),.int .i64 r] 127)).below b7).box 1;have f1:=Zae ((ST6.out.alloc (.cells #[.int .i64 (1+x),.int .i64 (m+1),.int .i64 (1+c),.int .i64 r] 127)).below b7).box 1;simp at t1
    have ST7:=hide st7;have hr7:=ZcM HR.out (Zde (n:=2+y0) (c:=1+c) (r:=r) ⟨by omega,by omega⟩ hab.1 hab.2.1 hab.2.2 ⟨by omega,by omega⟩ ⟨hr0,hr1⟩)
    have HR7:=hide hr7;have hl7:=Zd6 ls ⟨1+x,m+1,1+c,r⟩;have HL7:=hide hl7;clear o7 b7 st7 hr7 hl7 ST6
    go_wp2
    exact⟨⟨k+1,_,Zeq ls ⟨1+x,m+1,1+c,r⟩,by omega,by go_num,ST7.out,HR7.out,by have:=HL7.out;omega⟩,by simp [intOf];omega⟩
   ·go_wp2
    exact⟨⟨k+1,_,ls,by omega,by go_num,ST6.out.alloc _,HR.out,hll⟩,by simp [intOf];omega⟩
  ·have hab:1<=1+x2/\1+x2<1+x/\1+x<=2+y0:=by
    clear ST4 s0 s1 HR
    (try simp only [beq_eq_false_iff_ne,ne_eq,beq_iff_eq] at *)
    omega
   refine (ZaB p a len cap 4 _ ST4.out.cur (by omega) (by omega)).mono ?_
   rintro e w5 ⟨c,rfl,hc0,hc9,hc5,hg5⟩;have st5:=ST4.out.grown hc5 hg5 hp hsz1;have ST5:=hide st5;have hp5:=ZaQ st5.cur;clear hc5 hg5 st5 ST4 s0 s1
   go_wp2_with fail
   refine (Zco (fun z=>0<=z/\z<=2) p a len cap w5.heap.size 4 _ (ZaX ST5.out.cur _) (by omega) (by omega) (by omega) (ZcI w5)).mono ?_
   rintro e w6 ⟨r,rfl,⟨hr0,hr1⟩,hc6,hg6⟩;have st6:=(ST5.out.alloc _).grown hc6 hg6 hp hsz1;have ST6:=hide st6;have s1:=Zaa st6.box 1;have hbx:=Zab st6.box;simp at s1
   clear hc6 hg6 st6 ST5;by_cases h12:(ls.length:Int)<12
   ·go_wp2_with fail
    refine (Zd5 _ ls ⟨1+x2,1+x,1+c,r⟩ _ (by omega) (Zaq (ST6.out.alloc _).o1)).mono ?_
    rintro e w7 ⟨v',rfl,o7,b7⟩;obtain⟨b2,c2,rfl⟩:=Za0.shape (Zaq o7);have st7:=(ST6.out.alloc _).put1 b7 o7 hp hsz1;have t1:=Zaa ((ST6.out.alloc (.cells #[.int .i64 (1+x2),.int .i64 (1+x),.int .i64 (1+c),.int .i64 r] 127)).below b7).box 1;have f1:=Zae ((ST6.out.alloc (.cells #[.int .i64 (1+x2),.int .i64 (1+x),.int .i64 (1+c),.int .i64 r] 127)).below b7).box 1;simp at t1
    have ST7:=hide st7;have hr7:=ZcM HR.out (Zde (n:=2+y0) (c:=1+c) (r:=r) ⟨by omega,by omega⟩ hab.1 hab.2.1 hab.2.2 ⟨by omega,by omega⟩ ⟨hr0,hr1⟩)
    have HR7:=hide hr7;have hl7:=Zd6 ls ⟨1+x2,1+x,1+c,r⟩;have HL7:=hide hl7;clear o7 b7 st7 hr7 hl7 ST6
    go_wp2
    exact⟨⟨k+1,_,Zeq ls ⟨1+x2,1+x,1+c,r⟩,by omega,by go_num,ST7.out,HR7.out,by have:=HL7.out;omega⟩,by simp [intOf];omega⟩
   ·go_wp2
    exact⟨⟨k+1,_,ls,by omega,by go_num,ST6.out.alloc _,HR.out,hll⟩,by simp [intOf];omega⟩
  ·have hab:1<=1+x/\1+x<1+x2/\1+x2<=2+y0:=by
    clear ST4 s0 s1 HR
    (try simp only [beq_eq_false_iff_ne,ne_eq,beq_iff_eq] at *)
    omega
   refine (ZaB p a len cap 4 _ ST4.out.cur (by omega) (by omega)).mono ?_
   rintro e w5 ⟨c,rfl,hc0,hc9,hc5,hg5⟩;have st5:=ST4.out.grown hc5 hg5 hp hsz1;have ST5:=hide st5;have hp5:=ZaQ st5.cur;clear hc5 hg5 st5 ST4 s0 s1
   go_wp2_with fail
   refine (Zco (fun z=>0<=z/\z<=2) p a len cap w5.heap.size 4 _ (ZaX ST5.out.cur _) (by omega) (by omega) (by omega) (ZcI w5)).mono ?_
   rintro e w6 ⟨r,rfl,⟨hr0,hr1⟩,hc6,hg6⟩;have st6:=(ST5.out.alloc _).grown hc6 hg6 hp hsz1;have ST6:=hide st6;have s1:=Zaa st6.box 1;have hbx:=Zab st6.box;simp at s1
   clear hc6 hg6 st6 ST5;by_cases h12:(ls.length:Int)<12
   ·go_wp2_with fail
    refine (Zd5 _ ls ⟨1+x,1+x2,1+c,r⟩ _ (by omega) (Zaq (ST6.out.alloc _).o1)).mono ?_
    rintro e w7 ⟨v',rfl,o7,b7⟩;obtain⟨b2,c2,rfl⟩:=Za0.shape (Zaq o7);have st7:=(ST6.out.alloc _).put1 b7 o7 hp hsz1;have t1:=Zaa ((ST6.out.alloc (.cells #[.int .i64 (1+x),.int .i64 (1+x2),.int .i64 (1+c),.int .i64 r] 127)).below b7).box 1;have f1:=Zae ((ST6.out.alloc (.cells #[.int .i64 (1+x),.int .i64 (1+x2),.int .i64 (1+c),.int .i64 r] 127)).below b7).box 1;simp at t1
    have ST7:=hide st7;have hr7:=ZcM HR.out (Zde (n:=2+y0) (c:=1+c) (r:=r) ⟨by omega,by omega⟩ hab.1 hab.2.1 hab.2.2 ⟨by omega,by omega⟩ ⟨hr0,hr1⟩)
    have HR7:=hide hr7;have hl7:=Zd6 ls ⟨1+x,1+x2,1+c,r⟩;have HL7:=hide hl7;clear o7 b7 st7 hr7 hl7 ST6
    go_wp2
    exact⟨⟨k+1,_,Zeq ls ⟨1+x,1+x2,1+c,r⟩,by omega,by go_num,ST7.out,HR7.out,by have:=HL7.out;omega⟩,by simp [intOf];omega⟩
   ·go_wp2
    exact⟨⟨k+1,_,ls,by omega,by go_num,ST6.out.alloc _,HR.out,hll⟩,by simp [intOf];omega⟩
def blE (b:Bool):List Value:=[.bool b]
theorem ZhY (b:Bool):(blE b).length=1:=rfl
def Zdy (W:World)(v:Value)(bs:List Bool)(B:Nat):Prop:=ZaP blE 1 W v bs B
theorem Zdy.shape {W:World}{v:Value}{bs:List Bool}{B:Nat}(h:Zdy W v bs B):∃ a cap,v=.slice a bs.length cap:=by obtain ⟨a,cap,h,_⟩:=h;exact⟨a,cap,h⟩
theorem Zdy.cell {W:World}{v:Value}{bs:List Bool}{B:Nat}(h:Zdy W v bs B)(i:Nat)(b:Bool)(hb:bs[i]? = some b):∃ g off cap,v=.slice (some ⟨g,off,none⟩) bs.length cap/\g<B/\W.cell? ⟨g,off+i,none⟩=some (.bool b):=by
 obtain⟨g,off,cap,hv,hg,hc⟩:=ZaP.cell h ZhY i b hb;refine⟨g,off,cap,hv,hg,?_⟩
 have:=hc 0 _ rfl
 simpa using this

theorem Tryz.infoB:(Tryz.prog.info? 4).map (fun i=>(i.zero,i.size,i.bytes))=some (some (.bool false),1,1):=by kernel_rfl
theorem Zlp {x:NetD}(h:ZaV x=true):1<=x.n/\x.n<=6:=by
 simp [ZaV,inB] at h
 omega
theorem Zlo {x:NetD}(h:ZaV x=true):x.ls.length<=12/\x.ts.length<=4:=by
 simp [ZaV,ZbV,Zbn] at h
 omega
structure DSt (w w5 wr:World) (p z:Nat) (a:Option Addr) (len cap:Nat):Prop where
 cur:Cur wr p a len cap
 bel:Below w.heap.size w wr
 kept:∀ b,b<z+1->b≠p->wr.heap[b]? = w5.heap[b]?
 size:z+1<=wr.heap.size
theorem DSt.grown {w w5 wr w':World}{p z:Nat}{a:Option Addr}{len cap:Nat}(h:DSt w w5 wr p z a len cap)(hc:Cur w' p a len cap)(hg:wr.grownBy w' (some p))(hp:w.heap.size<=p):DSt w w5 w' p z a len cap where
 cur:=hc
 bel:=h.bel.grown hg h.bel.size (fun k hk=>by simp at hk;omega)
 kept:=fun b hb hbp=>by rw [hg.block b (by have:=h.size;omega) (by simp;exact hbp)];exact h.kept b hb hbp
 size:=Nat.le_trans h.size hg.size
theorem DSt.alloc {w w5 wr:World}{p z:Nat}{a:Option Addr}{len cap:Nat}(h:DSt w w5 wr p z a len cap)(o:Obj):DSt w w5 (wr.alloc o) p z a len cap where
 cur:=ZaX h.cur o
 bel:=h.bel.alloc h.bel.size o
 kept:=fun b hb hbp=>by rw [Below.heap_alloc _ _ _ (by have:=h.size;omega)];exact h.kept b hb hbp
 size:=by have:=h.size;simp;omega
def ZaJ:List Int->List (Int × Int)
 | a::b::l=>(a,b)::ZaJ l
 | _=>[]
theorem Zdj:∀ l:List Int,(ZaJ l).length=l.length / 2
 | []=>rfl
 | [_]=>by simp [ZaJ]
 | a::b::l=>by
  simp only [ZaJ,List.length_cons,Zdj l]
  omega
theorem ZeS:∀ (l:List Int)(i:Nat)(a b:Int),l[2*i]? = some a->l[2*i+1]? = some b->(ZaJ l)[i]? = some (a,b)
 | [],_,_,_,h,_=>by simp at h
 | [_],0,_,_,_,h=>by simp at h
 | [_],i+1,_,_,h,_=>by simp at h
 | x::y::l,0,a,b,h1,h2=>by
  simp at h1 h2
  simp [ZaJ,h1,h2]
 | x::y::l,i+1,a,b,h1,h2=>by
  have e1:2*(i+1)=2*i+1+1:=by omega
  rw [e1] at h1 h2;simp only [List.getElem?_cons_succ] at h1 h2
  simp only [ZaJ,List.getElem?_cons_succ]
  exact ZeS l i a b h1 h2
theorem Zju (l:List Int)(i:Nat)(a b:Int)(h1:l[2*i]? = some a)(h2:l[2*i+1]? = some b):(ZaJ l).take (i+1)=(ZaJ l).take i++[(a,b)]:=by
 have h:=ZeS l i a b h1 h2;obtain⟨hi,e⟩:=List.getElem?_eq_some_iff.1 h;rw [List.take_succ_eq_append_getElem hi,e]
def ordH (p q:Int × Int):Int:=orN [cmpN p.1 q.1,cmpN p.2 q.2]
theorem ZdF (p q:Int × Int):ordH p q<0↔p.1<q.1\/(p.1=q.1/\p.2<q.2):=by
 unfold ordH cmpN;simp only [orN]
 rcases Int.lt_trichotomy p.1 q.1 with h | h | h
 ·simp [h]
 ·rcases Int.lt_trichotomy p.2 q.2 with h2 | h2 | h2
  ·simp [h,h2]
  ·simp [h,h2]
  ·have h3:¬p.2<q.2:=by omega
   simp [h,h2,h3]
 ·have h3:¬p.1<q.1:=by omega
  have h4:¬p.1=q.1:=by omega
  simp [h,h3,h4]
def hitP (ls:List Lk)(id:Int)(e:Int × Int):Bool := !(Zci ls id e.1 e.2==0)
def Zck (ls:List Lk)(id:Int)(h:List Int):Bool:=(ZaJ h).all (hitP ls id)&&(decide (h.length%2=0)&&ascB ordH (ZaJ h))
theorem ZjR:∀ (l:List Int)(a b:Int),l.Pairwise (· < ·)->(∀ x∈l,a<=x/\x<=b)->(l.length:Int)<=max 0 (b-a+1)
 | [],_,_,_,_=>by simp;omega
 | x::l,a,b,hp,hx=>by
  rw [List.pairwise_cons] at hp;have h1:=hx x (by simp)
  have h2:=ZjR l (x+1) b hp.2 (fun y hy=>⟨by have:=hp.1 y hy;omega,(hx y (by simp [hy])).2⟩)
  simp only [List.length_cons]
  omega
theorem Zhg {l:List (Int × Int)}(h:ascB ordH l=true):∀ (d i:Nat) (p q:Int × Int),l[i]? = some p->l[i+d+1]? = some q->p.1<q.1\/(p.1=q.1/\p.2<q.2)
 | 0,i,p,q,hp,hq=>by
  obtain⟨hl,_⟩:=List.getElem?_eq_some_iff.1 hq;have h1:=List.all_eq_true.1 h (i+1) (List.mem_range.2 hl);rw [Za6 hp hq] at h1;exact (ZdF p q).1 (by simpa using h1)
 | d+1,i,p,q,hp,hq=>by
  obtain⟨hl,_⟩:=List.getElem?_eq_some_iff.1 hq;obtain⟨m,hm⟩:∃ m,l[i+d+1]? = some m:=⟨l[i+d+1]'(by omega),List.getElem?_eq_getElem (by omega)⟩
  have h1:=Zhg h d i p m hp hm;have h2:=List.all_eq_true.1 h (i+d+1+1) (List.mem_range.2 hl);rw [Za6 hm hq] at h2;have h3:=(ZdF m q).1 (by simpa using h2)
  omega
theorem ZjY {ls:List Lk}{f t r:Int}(h:Zci ls f t r≠0):∃ l∈ls,Zb7 f t r l=true:=by
 unfold Zci at h;cases e:ls.find? (Zb7 f t r) with
 | none=>rw [e] at h;simp at h
 | some l=>exact ⟨l,List.mem_of_find?_eq_some e,List.find?_some e⟩
theorem Zjk {n:Int}{ls:List Lk}(h:ZbV n ls=true):∀ l∈ls,ZaY n l=true:=by
 intro l hl;unfold ZbV at h;simp only [Bool.and_eq_true] at h
 obtain⟨i,hi,e⟩:=List.mem_iff_getElem.1 hl;have h1:=List.all_eq_true.1 h.1.2 i (List.mem_range.2 hi);rw [Zbh (List.getElem?_eq_getElem hi),e] at h1;exact h1
theorem Zh4 {x:NetD}{id:Int}{h:List Int}(hn:ZaV x=true)(hh:Zck x.ls id h=true):h.length<=60:=by
 unfold Zck at hh;simp only [Bool.and_eq_true,decide_eq_true_eq] at hh
 obtain⟨h1,h2,h3⟩:=hh;have hn2:=hn;simp only [ZaV,Bool.and_eq_true] at hn2
 have hnn:1<=x.n/\x.n<=6:=by
  have:=hn2.1.1;simp only [inB,Bool.and_eq_true,decide_eq_true_eq] at this
  exact this
 have hlk:=Zjk hn2.1.2;have hrange:∀ e∈ZaJ h,1<=e.1/\e.1<=6/\0<=e.2/\e.2<=2:=by
  intro e he;have hc:=List.all_eq_true.1 h1 e he;unfold hitP at hc;obtain⟨l,hl,hit⟩:=ZjY (by simpa using hc)
  have hok:=hlk l hl;simp only [ZaY,inB,Bool.and_eq_true,decide_eq_true_eq] at hok
  simp only [Zb7,Bool.and_eq_true,Bool.or_eq_true,beq_iff_eq] at hit
  omega
 have hp:((ZaJ h).map (fun e=>3*e.1+e.2)).Pairwise (· < ·):=by
  rw [List.pairwise_map,List.pairwise_iff_getElem];intro i j hi hj hij;have hc:=Zhg h3 (j-i-1) i _ _ (List.getElem?_eq_getElem hi) (by rw [show i+(j-i-1)+1=j by omega];exact List.getElem?_eq_getElem hj)
  have r1:=hrange _ (List.getElem_mem hi);have r2:=hrange _ (List.getElem_mem hj);omega
 have hl:=ZjR _ 3 20 hp (fun y hy=>by
  obtain⟨e,he,rfl⟩:=List.mem_map.1 hy;have:=hrange e he;omega)
 rw [List.length_map,Zdj] at hl;omega
structure HearUp (ls:List Lk) (id:Int) (h:List Int) (v a:Int):Prop where
 even:h.length%2=0
 hit:∀ q∈ZaJ h,hitP ls id q=true
 below:∀ q∈ZaJ h,q.1<v\/(q.1=v/\q.2<a)
 asc:(ZaJ h).Pairwise (fun p q=>p.1<q.1\/(p.1=q.1/\p.2<q.2))
 len:(h.length:Int)<=2*(3*(v-1)+a)
theorem HearUp.start (ls:List Lk)(id:Int):HearUp ls id [] 1 0:=⟨rfl,by simp [ZaJ],by simp [ZaJ],List.Pairwise.nil,by simp⟩
theorem HearUp.skip {ls:List Lk}{id:Int}{h:List Int}{v a:Int}(u:HearUp ls id h v a):HearUp ls id h v (a+1):=
 ⟨u.even,u.hit,fun q hq=>by have:=u.below q hq;omega,u.asc,by have:=u.len;omega⟩
theorem HearUp.next {ls:List Lk}{id:Int}{h:List Int}{v:Int}(u:HearUp ls id h v 3):HearUp ls id h (v+1) 0:=
 ⟨u.even,u.hit,fun q hq=>by have:=u.below q hq;omega,u.asc,by have:=u.len;omega⟩
theorem Zf9:∀ (h:List Int)(v a:Int),h.length%2=0->ZaJ (h++[v,a])=ZaJ h++[(v,a)]
 | [],_,_,_=>rfl
 | [_],_,_,h=>by simp at h
 | x::y::l,v,a,h=>by
  have:=Zf9 l v a (by simp at h;omega)
  simp only [List.cons_append,ZaJ,this]
theorem HearUp.push {ls:List Lk}{id:Int}{h:List Int}{v a:Int}(u:HearUp ls id h v a)(hc:0<Zci ls id v a):HearUp ls id (h++[v,a]) v (a+1):=by
 have e:=Zf9 h v a u.even;refine⟨by have:=u.even;simp;omega,?_,?_,?_,by have:=u.len;simp;omega⟩
 ·intro q hq
  rw [e] at hq
  rcases List.mem_append.1 hq with h1 | h1
  ·exact u.hit q h1
  ·have:q=(v,a):=by simpa using h1
   subst this;unfold hitP;simp
   omega
 ·intro q hq
  rw [e] at hq
  rcases List.mem_append.1 hq with h1 | h1
  ·have:=u.below q h1;omega
  ·have:q=(v,a):=by simpa using h1
   subst this;simp
   omega
 ·rw [e,List.pairwise_append]
  refine⟨u.asc,List.pairwise_singleton _ _,fun p hp q hq=>?_⟩
  have:q=(v,a):=by simpa using hq
  subst this;exact u.below p hp
theorem HearUp.ok {ls:List Lk}{id:Int}{h:List Int}{v a:Int}(u:HearUp ls id h v a):Zck ls id h=true:=by
 unfold Zck;rw [Bool.and_eq_true,Bool.and_eq_true];refine⟨List.all_eq_true.2 u.hit,by simpa using u.even,?_⟩
 unfold ascB;refine ZaG fun j hj=>?_
 cases j with
 | zero=>rfl
 | succ k=>
  rw [Za6 (List.getElem?_eq_getElem (by omega)) (List.getElem?_eq_getElem hj)]
  have h2:=List.pairwise_iff_getElem.1 u.asc k (k+1) (by omega) hj (by omega)
  rw [decide_eq_true_eq,ZdF];exact h2
structure Nr where
 to:Int
 c:Int
 deriving DecidableEq
instance:Inhabited Nr:=⟨⟨0,0⟩⟩
def nrV (l:Nr):Value:=.agg #[.int .i64 l.to,.int .i64 l.c]
def nrE (l:Nr):List Value:=[.int .i64 l.to,.int .i64 l.c]
theorem ZgS (l:Nr):(nrE l).length=2:=rfl
def ZaA (W:World)(v:Value)(ls:List Nr)(B:Nat):Prop:=ZaP nrE 2 W v ls B
theorem ZaA.then {W W':World}{v:Value}{ls:List Nr}(h:ZaA W v ls W.heap.size)(hb:Below W.heap.size W W'):ZaA W' v ls W'.heap.size:=ZaT.then h hb
theorem ZaA.shape {W:World}{v:Value}{ls:List Nr}{B:Nat}(h:ZaA W v ls B):∃ a cap,v=.slice a ls.length cap:=by obtain ⟨a,cap,h,_⟩:=h;exact⟨a,cap,h⟩
theorem ZaA.cells {W:World}{v:Value}{ls:List Nr}{B:Nat}(h:ZaA W v ls B)(i:Nat)(l:Nr)(hl:ls[i]? = some l):
  ∃ b off cap,v=.slice (some ⟨b,off,none⟩) ls.length cap/\b<B/\W.cell? ⟨b,off+i*2,none⟩=some (.int .i64 l.to)/\W.cell? ⟨b,off+i*2+1,none⟩=some (.int .i64 l.c):=by
 obtain⟨b,off,cap,hv,hb,hc⟩:=ZaP.cell h ZgS i l hl;exact⟨b,off,cap,hv,hb,hc 0 _ rfl,hc 1 _ rfl⟩
def nr0:Nr:=⟨0,0⟩
theorem Tryz.infoNr:(Tryz.prog.info? 98).map (fun i=>(i.zero,i.size,i.bytes))=some (some (nrV nr0),2,16):=by kernel_rfl
structure RecD where
 area:Int
 kind:Int
 owner:Int
 key:Int
 seq:Int
 near:List Nr
 cost:Int
 far:Bool
 deriving DecidableEq
def recC (x:RecD)(v:Value):Array Value:=#[.int .i64 x.area,.int .i64 x.kind,.int .i64 x.owner,.int .i64 x.key,.int .i64 x.seq,v,.int .i64 x.cost,.bool x.far]
def Zl6 (W:World)(v:Value)(x:RecD)(B:Nat):Prop:=∃ v1,v=.agg (recC x v1)/\ZaA W v1 x.near B
theorem Zl6.then {W W':World}{v:Value}{x:RecD}(h:Zl6 W v x W.heap.size)(hb:Below W.heap.size W W'):Zl6 W' v x W'.heap.size:=by
 obtain⟨v1,hv,h1⟩:=h;exact⟨v1,hv,h1.then hb⟩
def mk (q:Int)(i:Nat):Nr:=⟨q+2*(i:Int),q+2*(i:Int)+1⟩
theorem Zb3 {w:World}{base size g cap:Nat}{e:TypeId}{n:Nat}{xs:List Value}(h:w.ownsRow base e size (.slice (some ⟨g,0,none⟩) n cap) n xs)(j:Nat)(hj:j<n*size):∃ u,w.cell? ⟨g,j,none⟩=some u:=by
 rw [h.cellAt j hj];have hl:j<xs.length:=by rw [h.1];exact hj
 exact⟨_,List.getElem?_eq_getElem hl⟩
theorem ZcJ (w:World)(r:Option Nat):w.grownBy w r:=⟨rfl,rfl,rfl,Nat.le_refl _,fun _ _ _=>rfl⟩
theorem ZiY {a b:Int}(h:a=b):Ending.returned (.int .i64 a)=.returned (.int .i64 b):=by rw [h]
abbrev RP:=RecD × Value
def encP (p:RP):List Value:=[.int .i64 p.1.area,.int .i64 p.1.kind,.int .i64 p.1.owner,.int .i64 p.1.key,.int .i64 p.1.seq,p.2,.int .i64 p.1.cost,.bool p.1.far]
theorem ZaK (p:RP):(encP p).length=8:=rfl
def Zbe:RecD:=⟨0,0,0,0,0,[],0,false⟩
def Zbs (W:World)(v:Value)(ps:List RP)(B:Nat):Prop:=ZaP encP 8 W v ps B/\∀ p∈ps,ZaA W p.2 p.1.near B
theorem Zbs.shape {W:World}{v:Value}{ps:List RP}{B:Nat}(h:Zbs W v ps B):∃ a cap,v=.slice a ps.length cap:=by
 obtain⟨⟨a,cap,h,_⟩,_⟩:=h;exact⟨a,cap,h⟩
theorem Zbs.later {W W':World}{v:Value}{ps:List RP}{B C:Nat}(h:Zbs W v ps B)(hb:Below C W W')(hBC:B<=C):Zbs W' v ps B:=
 ⟨ZaT.later h.1 hb hBC,fun p hp=>ZaT.later (h.2 p hp) hb hBC⟩
theorem Zbs.more {W:World}{v:Value}{ps:List RP}{B C:Nat}(h:Zbs W v ps B)(hBC:B<=C):Zbs W v ps C:=
 ⟨ZaT.more h.1 hBC,fun p hp=>ZaT.more (h.2 p hp) hBC⟩
theorem Zbs.then {W W':World}{v:Value}{ps:List RP}(h:Zbs W v ps W.heap.size)(hb:Below W.heap.size W W'):Zbs W' v ps W'.heap.size:=(h.later hb (Nat.le_refl _)).more hb.size
theorem Zbs.cells {W:World}{v:Value}{ps:List RP}{B:Nat}(h:Zbs W v ps B)(i:Nat)(p:RP)(hp:ps[i]? = some p):
  ∃ b off cap,v=.slice (some ⟨b,off,none⟩) ps.length cap/\b<B/\W.cell? ⟨b,off+i*8,none⟩=some (.int .i64 p.1.area)/\W.cell? ⟨b,off+i*8+1,none⟩=some (.int .i64 p.1.kind)/\W.cell? ⟨b,off+i*8+2,none⟩=some (.int .i64 p.1.owner)/\W.cell? ⟨b,off+i*8+3,none⟩=some (.int .i64 p.1.key)/\W.cell? ⟨b,off+i*8+4,none⟩=some (.int .i64 p.1.seq)/\W.cell? ⟨b,off+i*8+5,none⟩=some p.2/\W.cell? ⟨b,off+i*8+6,none⟩=some (.int .i64 p.1.cost)/\W.cell? ⟨b,off+i*8+7,none⟩=some (.bool p.1.far)/\ZaA W p.2 p.1.near B:=by
 obtain⟨b,off,cap,hv,hb,hc⟩:=ZaP.cell h.1 ZaK i p hp;exact⟨b,off,cap,hv,hb,hc 0 _ rfl,hc 1 _ rfl,hc 2 _ rfl,hc 3 _ rfl,hc 4 _ rfl,hc 5 _ rfl,hc 6 _ rfl,hc 7 _ rfl,h.2 p (List.mem_of_getElem? hp)⟩
def Zat (W:World)(lo hi:Nat)(p:RP):Prop:=W.ownsRow lo 98 2 p.2 p.1.near.length (flat nrE p.1.near)/\∀ k,p.2.ownBlock=some k->k<hi
def Zef (p q:RP):Prop:=∀ k,p.2.ownBlock=some k->q.2.ownBlock≠some k
structure RecsOwn (W:World) (lo hi:Nat) (v:Value) (ps:List RP):Prop where
 row:W.ownsRow lo 40 8 v ps.length (flat encP ps)
 top:∀ k,v.ownBlock=some k->k<hi
 nears:∀ p∈ps,Zat W lo hi p
 apart:ps.Pairwise Zef
theorem Zam {W W':World}{base size:Nat}{e:TypeId}{v:Value}{n:Nat}{xs:List Value}(h:W.ownsRow base e size v n xs)(hk:∀ k,v.ownBlock=some k->W'.heap[k]? = W.heap[k]?):W'.ownsRow base e size v n xs:=by
 refine⟨h.1,?_⟩
 rcases h.2 with h2 | ⟨g,cap,cur,hv,hg,hh,r⟩
 ·exact .inl h2
 ·exact .inr ⟨g,cap,cur,hv,hg,by rw [hk g (by rw [hv];rfl)];exact hh,r⟩
theorem Zat.keep {W W':World}{lo hi:Nat}{p:RP}(h:Zat W lo hi p)(hk:∀ k,lo<=k->k<hi->k<W.heap.size->W'.heap[k]? = W.heap[k]?):Zat W' lo hi p:=
 ⟨Zam h.1 (fun k e=>hk k (h.1.lt k e).1 (h.2 k e) (h.1.lt k e).2),h.2⟩
theorem Zat.wide {W:World}{lo hi lo' hi':Nat}{p:RP}(h:Zat W lo hi p)(hl:lo'<=lo)(hh:hi<=hi'):Zat W lo' hi' p:=
 ⟨Zal h.1 hl,fun k e=>Nat.lt_of_lt_of_le (h.2 k e) hh⟩
theorem Zat.at {W:World}{lo hi:Nat}{p:RP}(h:Zat W lo hi p):ZaA W p.2 p.1.near hi:=by
 have h1:=Zaq h.1;obtain⟨a,cap,hv,h2⟩:=h1;refine⟨a,cap,hv,?_⟩
 rcases h2 with h0 | ⟨b,off,ha,hb1,hx⟩
 ·exact .inl h0
 ·exact .inr ⟨b,off,ha,h.2 b (by rw [hv,ha];rfl),hx⟩
theorem RecsOwn.keep {W W':World}{lo hi:Nat}{v:Value}{ps:List RP}(h:RecsOwn W lo hi v ps)(hk:∀ k,lo<=k->k<hi->k<W.heap.size->W'.heap[k]? = W.heap[k]?):RecsOwn W' lo hi v ps where
 row:=Zam h.row (fun k e=>hk k (h.row.lt k e).1 (h.top k e) (h.row.lt k e).2)
 top:=h.top
 nears:=fun p hp=>(h.nears p hp).keep hk
 apart:=h.apart
theorem RecsOwn.below {W W':World}{lo hi B:Nat}{v:Value}{ps:List RP}(h:RecsOwn W lo hi v ps)(hb:Below B W W')(hB:hi<=B):RecsOwn W' lo hi v ps:=h.keep (fun k _ h2 _=>hb.block k (by omega))
theorem RecsOwn.wide {W:World}{lo hi lo' hi':Nat}{v:Value}{ps:List RP}(h:RecsOwn W lo hi v ps)(hl:lo'<=lo)(hh:hi<=hi'):RecsOwn W lo' hi' v ps where
 row:=Zal h.row hl
 top:=fun k e=>Nat.lt_of_lt_of_le (h.top k e) hh
 nears:=fun p hp=>(h.nears p hp).wide hl hh
 apart:=h.apart
theorem RecsOwn.at {W:World}{lo hi:Nat}{v:Value}{ps:List RP}(h:RecsOwn W lo hi v ps):Zbs W v ps hi:=by
 refine⟨?_,fun p hp=>(h.nears p hp).at⟩
 have h1:=Zaq h.row;obtain⟨a,cap,hv,h2⟩:=h1;refine⟨a,cap,hv,?_⟩
 rcases h2 with h0 | ⟨b,off,ha,hb1,hx⟩
 ·exact .inl h0
 ·exact .inr ⟨b,off,ha,h.top b (by rw [hv,ha];rfl),hx⟩
structure Frame (lo hi:Nat) (w w':World):Prop where
 os:w'.os=w.os
 tape:w'.tape=w.tape
 output:w'.output=w.output
 size:w.heap.size<=w'.heap.size
 block:∀ k,k<w.heap.size->(k<lo\/hi<=k)->w'.heap[k]? = w.heap[k]?
theorem Frame.refl (lo hi:Nat)(w:World):Frame lo hi w w:=⟨rfl,rfl,rfl,Nat.le_refl _,fun _ _ _=>rfl⟩
theorem Frame.trans {lo hi:Nat}{a b c:World}(h:Frame lo hi a b)(k:Frame lo hi b c):Frame lo hi a c:=
 ⟨k.os.trans h.os,k.tape.trans h.tape,k.output.trans h.output,Nat.le_trans h.size k.size,fun i hi hr=>(k.block i (Nat.lt_of_lt_of_le hi h.size) hr).trans (h.block i hi hr)⟩
theorem Frame.grown {lo hi:Nat}{a b:World}{row:Option Nat}(g:a.grownBy b row)(hr:∀ k,row=some k->lo<=k/\k<hi):Frame lo hi a b:=
 ⟨g.os,g.tape,g.output,g.size,fun k hk hh=>g.block k hk (fun e=>by have:=hr k e.symm;omega)⟩
theorem Frame.set {lo hi:Nat}(w:World)(p j:Nat)(u:Value)(h1:lo<=p)(h2:p<hi):Frame lo hi w (w.setCell ⟨p,j,none⟩ u):=Frame.grown (Zag w p j u) (fun k e=>by simp at e;omega)
theorem Frame.below {lo hi:Nat}{w w':World}(h:Frame lo hi w w')(hw:lo<=w.heap.size):Below lo w w':=(Below.refl _ _).trans ⟨h.os,h.tape,h.output,h.size,fun k hk=>h.block k (by omega) (.inl hk)⟩
theorem RecsOwn.frame {W W':World}{lo hi l2 h2:Nat}{v:Value}{ps:List RP}(h:RecsOwn W lo hi v ps)(hb:Frame l2 h2 W W')(hB:hi<=l2\/h2<=lo):RecsOwn W' lo hi v ps:=h.keep (fun k h1 h2 h3=>hb.block k h3 (by omega))
abbrev putP (W:World) (g o:Nat) (p:RP):World:=(((((((W.setCell ⟨g,o,none⟩ (.int .i64 p.1.area)).setCell ⟨g,o+1,none⟩ (.int .i64 p.1.kind)).setCell ⟨g,o+2,none⟩ (.int .i64 p.1.owner)).setCell ⟨g,o+3,none⟩ (.int .i64 p.1.key)).setCell ⟨g,o+4,none⟩ (.int .i64 p.1.seq)).setCell ⟨g,o+5,none⟩ p.2).setCell ⟨g,o+6,none⟩ (.int .i64 p.1.cost)).setCell ⟨g,o+7,none⟩ (.bool p.1.far)
theorem Zer (W:World)(g o:Nat)(p:RP):W.grownBy (putP W g o p) (some g):=
 Zaj (Zaj (Zaj (Zaj (Zaj (Zaj (Zaj (Zag W g _ _) (Zag _ g _ _)) (Zag _ g _ _)) (Zag _ g _ _)) (Zag _ g _ _)) (Zag _ g _ _)) (Zag _ g _ _)) (Zag _ g _ _)
theorem Zkp {W:World}{base g cap n j:Nat}{xs:List RP}{p:RP}(h:W.ownsRow base 40 8 (.slice (some ⟨g,0,none⟩) n cap) n (flat encP xs))(hj:j<xs.length):
  (putP W g (j*8) p).ownsRow base 40 8 (.slice (some ⟨g,0,none⟩) n cap) n (flat encP (xs.set j p)):=by
 have e:(((((((((flat encP xs).set (j*8) (.int .i64 p.1.area)).set (j*8+1) (.int .i64 p.1.kind)).set (j*8+2) (.int .i64 p.1.owner)).set (j*8+3) (.int .i64 p.1.key)).set (j*8+4) (.int .i64 p.1.seq)).set (j*8+5) p.2).set (j*8+6) (.int .i64 p.1.cost)).set (j*8+7) (.bool p.1.far))=flat encP (xs.set j p):=ZiL ZaK xs j p hj;rw [<-e];exact ((((((((h.stored (j*8) _).1.stored (j*8+1) _).1.stored (j*8+2) _).1.stored (j*8+3) _).1.stored (j*8+4) _).1.stored (j*8+5) _).1.stored (j*8+6) _).1.stored (j*8+7) _).1
theorem Zg6 {W:World}{lo hi:Nat}{ps:List RP}{p:RP}(h:ps.Pairwise Zef)(hn:∀ q∈ps,Zat W lo hi q)(hp:∀ k,p.2.ownBlock=some k->hi<=k):(ps++[p]).Pairwise Zef:=by
 rw [List.pairwise_append];refine⟨h,by simp,?_⟩
 intro a ha b hb;have:b=p:=by simpa using hb
 subst this;intro k hk he;have h1:=(hn a ha).2 k hk;have h2:=hp k he;omega
def tot (ps:List RP):Nat:=(ps.map (fun p=>1+p.1.near.length)).sum
theorem Zb4 (p:RP)(ps:List RP):tot (p::ps)=1+p.1.near.length+tot ps:=by simp [tot]
theorem Zbq (a b:List RP):tot (a++b)=tot a+tot b:=by simp [tot]
theorem Za3 (ps:List RP):ps.length<=tot ps:=by
 induction ps with
 | nil=>simp [tot]
 | cons p ps ih=>rw [Zb4,List.length_cons];omega
theorem Zc6 {ps:List RP}{p:RP}(h:p∈ps):p.1.near.length<=tot ps:=by
 induction ps with
 | nil=>simp at h
 | cons q ps ih=>
  rw [Zb4]
  rcases List.mem_cons.1 h with rfl | h1
  ·omega
  ·have:=ih h1;omega
theorem ZkM {ps qs:List RP}(h:ps.map (·.1)=qs.map (·.1)):tot ps=tot qs:=by
 have e:∀ l:List RP,tot l=((l.map (·.1)).map (fun x=>1+x.near.length)).sum:=fun l=>by simp [tot,List.map_map,Function.comp_def]
 rw [e,e,h]
theorem ZeQ {ps:List RP}{k:Nat}{p:RP}(h:ps[k]? = some p):(ps.take (k+1)).map (·.1)=(ps.take k).map (·.1)++[p.1]:=by
 obtain⟨hk,e⟩:=List.getElem?_eq_some_iff.1 h;rw [List.take_succ_eq_append_getElem hk,List.map_append,e]
 rfl
end Go.Proofs.YtcimbiinljcifaaGreat
