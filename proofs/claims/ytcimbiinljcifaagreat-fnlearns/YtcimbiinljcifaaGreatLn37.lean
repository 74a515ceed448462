/-
  DrawSelf
-/
import Derived.Test.YtcimbiinljcifaaGreatLn1
import Derived.Test.YtcimbiinljcifaaGreatLn6
import Derived.Test.YtcimbiinljcifaaGreatLn15
import Derived.Test.YtcimbiinljcifaaGreatLn21
import Derived.Test.YtcimbiinljcifaaGreatLn33
import Derived.Test.YtcimbiinljcifaaGreatLn34
import Derived.Test.YtcimbiinljcifaaGreatLn35
import Derived.Test.YtcimbiinljcifaaGreatLn36
namespace Go.Proofs.YtcimbiinljcifaaGreat
open Go.RowKit
set_option linter.unusedSimpArgs false
set_option linter.unusedVariables false
set_option maxRecDepth 100000
set_option maxHeartbeats 8000000
theorem Zjm {x:NetD}(h:ZaV x=true):∀ t∈x.ts,1<=t.o/\t.o<=x.n:=by
 simp only [ZaV,Bool.and_eq_true] at h
 intro t ht;have:=Zl0 h.2 t ht;simp only [Zcw,inB,Bool.and_eq_true,decide_eq_true_eq] at this
 omega
theorem Zj3 (bs:List Bool):flat blE bs=bs.map Value.bool:=by
 induction bs with
 | nil=>rfl
 | cons b bs ih=>simp only [flat,List.flatMap_cons] at *;rw [ih];rfl
theorem Ze6 (bs:List Bool)(k:Nat)(b:Bool):(flat blE bs).set k (.bool b)=flat blE (bs.set k b):=by
 rw [Zj3,Zj3,List.map_set]
theorem Zkv (p:Nat)(a:Option Addr)(len cap:Nat)(w:World)(hc:Cur w p a len cap):
  Calls Tryz.prog 24 #[.pointer (some ⟨p,0,none⟩)] w fun e w'=>∃ x v1 v2 v3 v4 ps,e=.returned (ZdL x v1 v2 v3 v4)/\ZcE x ps=true/\totS x ps<=5000/\SelfSrc w' w'.heap.size v1 v2 v3 v4 x ps/\Cur w' p a len cap/\w.grownBy w' (some p):=by
 have hp:=ZaQ hc;have h0:=heap_alloc_new w (.cells #[.int .i64 0,.int .i64 0,.int .i64 0,.slice none 0 0,.slice none 0 0,.slice none 0 0,.slice none 0 0] 31);have g0:w.grownBy (w.alloc (.cells #[.int .i64 0,.int .i64 0,.int .i64 0,.slice none 0 0,.slice none 0 0,.slice none 0 0,.slice none 0 0] 31)) (some p):=World.grownBy_alloc w _ _;have HN:=hide (Zlq p a len cap _ (ZaX hc (.cells #[.int .i64 0,.int .i64 0,.int .i64 0,.slice none 0 0,.slice none 0 0,.slice none 0 0,.slice none 0 0] 31)));have H0:=hide h0;clear hc h0
 go_enter Tryz.func24,Tryz.ntmps24
 go_wp2_with fail
 obtain⟨w0,hw0⟩:∃ V,V=w.alloc (.cells #[.int .i64 0,.int .i64 0,.int .i64 0,.slice none 0 0,.slice none 0 0,.slice none 0 0,.slice none 0 0] 31):=⟨_,rfl⟩;have hs0:w.heap.size<w0.heap.size:=by rw [hw0];simp
 rw [<-hw0] at HN H0 g0 |-;clear hw0;refine HN.out.mono ?_
 rintro e w1 ⟨x,v1,v2,rfl,hok,o1,o2,c1, -,g1⟩;obtain⟨n,ls,ts⟩:=x;simp only [] at o1 o2
 obtain⟨a1,d1,rfl⟩:=Zac o1;obtain⟨a2,d2,rfl⟩:=Zac o2;have hn6:=Zlp hok;have hl12:=Zlo hok;simp only [] at hn6 hl12
 have hs1:=g1.size;have r1:=(g1.block _ (Zab H0.out) (by simp;omega)).trans H0.out
 have G1:=Zaj g0 g1;have HB:=hide (ZaB p a len cap 2 w1 c1 (by omega) (by omega))
 have R1:=hide r1;have O1:=hide o1;have O2:=hide o2;have HOK:=hide hok;clear r1 o1 o2 c1 hok HN H0 g0 g1
 go_wp2_with fail
 refine HB.out.mono ?_
 rintro e w2 ⟨y,rfl,hy0,hy1,c2,g2⟩;have hs2:=g2.size;have st3:SfSt w (w2.alloc (.cells #[.int .i64 0,.int .i64 y,.int .i64 n,.slice a1 ls.length d1,.slice a2 ts.length d2,.slice none 0 0,.slice none 0 0] 31)) p w2.heap.size a len cap 0 y n ls ts [] (.slice a1 ls.length d1) (.slice a2 ts.length d2) (.slice none 0 0) (.slice none 0 0):=
  {cur:=ZaX c2 _
   gro:=Zaj (Zaj G1 g2) (World.grownBy_alloc w2 _ _)
   new:=by omega
   res:=by
    rw [Below.heap_alloc _ _ _ (by omega),g2.block _ (Zab R1.out) (by simp;omega)]
    exact R1.out
   box:=heap_alloc_new w2 _
   o1:=Zal ((Zba O1.out g2 (by omega)).alloc _) (by omega)
   o2:=Zal ((Zba O2.out g2 (by omega)).alloc _) (by omega)
   o3:=World.ownsRow_nil _ _ _ _ }
 have HB3:=hide (ZaB p a len cap n _ st3.cur (by omega) (by omega))
 have ST3:=hide st3;clear st3 c2 g2 G1 R1 O1 O2 HB
 go_wp2_with fail
 obtain⟨w3,hw3⟩:∃ V,V=w2.alloc (.cells #[.int .i64 0,.int .i64 y,.int .i64 n,.slice a1 ls.length d1,.slice a2 ts.length d2,.slice none 0 0,.slice none 0 0] 31):=⟨_,rfl⟩;rw [<-hw3] at HB3 ST3 |-;clear hw3;obtain⟨z,hz⟩:∃ z,z=w2.heap.size:=⟨_,rfl⟩;rw [<-hz] at ST3 |-;clear hz;obtain⟨N,rfl⟩:∃ N:Nat,n=(N:Int):=⟨n.toNat,by omega⟩
 refine HB3.out.mono ?_
 rintro e w4 ⟨yi,rfl,hyi0,hyi1,c4,g4⟩;have st4:=ST3.out.grown c4 g4 hp;have q0:=Zaa st4.box 0;simp at q0
 have f0:=Zae st4.box 0;have ST5:=hide (st4.setId hp (1+yi));clear st4 c4 g4 ST3 HB3;have hwr:IntKind.i64.wrap (1+yi)=1+yi:=ZaD _ (by omega) (by omega)
 go_wp2
 go_loopw [4] (fun i wr=>∃ (v:Nat) (hd:List Int) (v3:Value),1<=v/\v<=N+1/\i=.int .i64 (v:Int)/\SfSt w wr p z a len cap (1+yi) y (N:Int) ls ts hd (.slice a1 ls.length d1) (.slice a2 ts.length d2) v3 (.slice none 0 0)/\HearUp ls (1+yi) hd (v:Int) 0) (fun i _=>9-(intOf i).toNat)
 case atStart=>exact ⟨1,[],_,by omega,by omega,rfl,ST5.out,HearUp.start _ _⟩
 case round=>
  rename World=>wa
  clear ST5 q0 f0;obtain⟨v,hd,v3,hv1,hv2,rfl,st,hu⟩:=hrel;have q2:=Zaa st.box 2;simp at q2
  have ST:=hide st;have HU:=hide hu;clear st hu;by_cases hlv:v<=N
  ·have hlv':(v:Int)<=(N:Int):=by omega
   go_wp2
   go_loopw [5] (fun i wr=>∃ (k:Nat) (hd:List Int) (v3:Value),k<=3/\i=.int .i64 (k:Int)/\SfSt w wr p z a len cap (1+yi) y (N:Int) ls ts hd (.slice a1 ls.length d1) (.slice a2 ts.length d2) v3 (.slice none 0 0)/\HearUp ls (1+yi) hd (v:Int) (k:Int)) (fun i _=>9-(intOf i).toNat)
   case atStart=>exact ⟨0,hd,v3,by omega,rfl,ST.out,HU.out⟩
   case round=>
    rename World=>wb
    clear ST HU q2;obtain⟨k,hd,v3,hk,rfl,st,hu⟩:=hrel;obtain⟨a3,d3,rfl⟩:=Zac st.o3;have q0:=Zaa st.box 0;have q2:=Zaa st.box 2;have q3:=Zaa st.box 3;have q4:=Zaa st.box 4;simp at q0 q2 q3 q4
    have HCO:=hide (Zfu (.int .i64 (N:Int)) (.slice a1 ls.length d1) (.slice a2 ts.length d2) ls (1+yi) (v:Int) (k:Int) wb (by omega) (Zaq st.o1))
    have ST:=hide st;have HU:=hide hu;clear st hu;by_cases hlk:k<=2
    ·have hlk':(k:Int)<=2:=by omega
     obtain⟨C,hC⟩:∃ C,C=Zci ls (1+yi) (v:Int) (k:Int):=⟨_,rfl⟩;rw [<-hC] at HCO;have HCC:=hide hC;clear hC
     go_wp2_with fail
     refine HCO.out.mono ?_
     rintro e w5 ⟨rfl,b5⟩;have st5:=ST.out.below b5;have ST5:=hide st5;clear b5 st5 ST q0 q2 q3 q4 HCO;by_cases hC:0<C
     ·have hCg:decide (0<C)=true:=decide_eq_true hC
      go_wp2_with fail
      refine (Zc2 p a len cap 4 w5 ST5.out.cur (by omega) (by omega)).mono ?_
      rintro e w6 ⟨b,rfl,c6,g6⟩;have st6:=ST5.out.grown c6 g6 hp;have ST6:=hide st6;have q5:=Zaa st6.box 5;simp at q5
      have hzl:=Zab st6.box;clear c6 g6 st6 ST5;cases b
      ·have HAL:=hide (ST6.out.alloc (.cells #[.int .i64 (v:Int),.int .i64 (k:Int)] 3))
       have hhl:hd.length<=100:=by have:=HU.out.len;omega
       have hzn:=ST6.out.new
       go_wp2_with (first
        | (at_builtin;refine Zev (by decide) _ rfl _ _ 28 rfl (z+1) 3 Tryz.underlying28 Tryz.info3 (.slice a3 hd.length d3) hd (v:Int) (k:Int) rfl HAL.out.o3 ⟨w6.heap.size,0,none⟩ 2 rfl (Zar (cs:=[.int .i64 (v:Int),.int .i64 (k:Int)])) (by omega) (by simp;omega) ?_))
       intro v' w7 l' hl' hown' hgrow;obtain⟨a3',d3',rfl⟩:=Zac hown';have hb7:=(hgrow.block z (Zab HAL.out.box) (fun e=>by have:=HAL.out.o3.lt z e.symm;omega)).trans HAL.out.box
       have q5':=Zaa hb7 5;simp at q5'
       have f5:=Zae hb7 5;have st7:=HAL.out.hear hp hgrow hown';have ST7:=hide st7;clear st7 hown' hgrow hb7 HAL ST6 q5
       go_wp2
       go_roundw
       case rel=>exact ⟨k+1,l',_,by omega,by go_num,ST7.out,by rw [hl'.out];exact HU.out.push (by rw [<-HCC.out];exact hC)⟩
       case measure=>simp [intOf];omega
      ·go_wp2
       go_roundw
       case rel=>exact ⟨k+1,hd,_,by omega,by go_num,ST6.out,HU.out.skip⟩
       case measure=>simp [intOf];omega
     ·have hCg:decide (0<C)=false:=decide_eq_false hC
      go_wp2
      go_roundw
      case rel=>exact ⟨k+1,hd,_,by omega,by go_num,ST5.out,HU.out.skip⟩
      case measure=>simp [intOf];omega
    ·have hlk':¬(k:Int)<=2:=by omega
     have hk3:(k:Int)=3:=by omega
     have HU3:=HU.out;rw [hk3] at HU3;have HUN:=hide HU3.next;clear HU3 hk3 HU
     go_wp2
     go_roundw
     case rel=>exact ⟨v+1,hd,_,by omega,by omega,by go_num,ST.out,HUN.out⟩
     case measure=>simp [intOf];omega
  ·have hlv':¬(v:Int)<=(N:Int):=by omega
   have q3:=Zaa ST.out.box 3;simp at q3
   obtain⟨i0,hi,hz0,hz1,hz2⟩:=info_parts Tryz.infoB;have HI:=hide hi;have HZ0:=hide hz0;clear hi hz0;have hzl:=Zab ST.out.box;have hzn:=ST.out.new
   go_wp2_with (first
    | (refine Zct ZhY (by omega) _ rfl _ _ 91 rfl (z+1) 4 i0 (.bool false) false rfl Tryz.underlying91 HI.out HZ0.out hz1 ls.length rfl rfl (by rw [hz2];omega) (by unfold maxLen;omega) (by omega) ?_))
   intro wb ob gb;have stb:=ST.out.below (W':=wb) ⟨gb.os,gb.tape,gb.output,gb.size,fun k hk=>gb.block k hk (by simp)⟩
   have hsb:wa.heap.size<wb.heap.size:=by
    rcases ob.2 with ⟨h0,_⟩ | ⟨g,cp,cur,hv,_,hh,_⟩
    ·cases h0
    ·cases hv;exact Zab hh
   obtain⟨B,hB⟩:∃ B,B=wa.heap.size:=⟨_,rfl⟩;rw [<-hB] at ob hsb |-;have hzB:z<B:=by omega
   have STB:=hide stb;have OB:=hide ob;have q2:=Zaa stb.box 2;simp at q2
   clear stb ob gb hB ST q3 hzl
   go_wp2_with (first
    | (refine Zct ZhY (by omega) _ rfl _ _ 91 rfl (z+1) 4 i0 (.bool false) false rfl Tryz.underlying91 HI.out HZ0.out hz1 N rfl rfl (by rw [hz2];omega) (by unfold maxLen;omega) (by omega) ?_))
   intro wc oc gc;have stc:=STB.out.below (W':=wc) ⟨gc.os,gc.tape,gc.output,gc.size,fun k hk=>gc.block k hk (by simp)⟩
   have hsc:wb.heap.size<wc.heap.size:=by
    rcases oc.2 with ⟨h0,_⟩ | ⟨g,cp,cur,hv,_,hh,_⟩
    ·cases h0
    ·cases hv;exact Zab hh
   have obc:=OB.out.kept gc (.inr (by simp [Value.ownBlock]))
   have STC:=hide stc;have OBC:=hide obc;have OUC:=hide oc;obtain⟨U,hU⟩:∃ U,U=wb.heap.size:=⟨_,rfl⟩;rw [<-hU] at OUC hsc |-;have hBU:B<U:=by omega
   clear stc obc oc gc hU STB OB q2
   go_wp2
   go_loopw [8] (fun i wr=>∃ (k:Nat) (bs zs:List Bool),k<=ls.length/\i=.int .i64 (k:Int)/\bs.length=ls.length/\zs.length=N/\SfSt w wr p z a len cap (1+yi) y (N:Int) ls ts hd (.slice a1 ls.length d1) (.slice a2 ts.length d2) v3 (.slice none 0 0)/\wr.ownsRow (z+1) 4 1 (.slice (some ⟨B,0,none⟩) ls.length ls.length) ls.length (flat blE bs)/\wr.ownsRow (z+1) 4 1 (.slice (some ⟨U,0,none⟩) N N) N (flat blE zs)) (fun i _=>20-(intOf i).toNat)
   case atStart=>exact ⟨0,_,_,by omega,rfl,by simp,by simp,STC.out,OBC.out,OUC.out⟩
   case round=>
    clear STC OBC OUC
    rename World=>wd
    obtain⟨k,bs,zs,hk,rfl,hbl,hzl2,st,ob,ou⟩:=hrel;by_cases hlk:k<ls.length
    ·have hlk':(k:Int)<(ls.length:Int):=by omega
     have hk0:(0:Int)<=(k:Int):=by omega
     have hp2:=ZaQ st.cur;have hnw:=st.new
     go_wp2_with fail
     refine (Zc2 p a len cap 6 wd st.cur (by omega) (by omega)).mono ?_
     rintro e w7 ⟨c,rfl,c7,g7⟩;have st7:=st.grown c7 g7 hp;have ob7:=Zba ob g7 (by omega)
     have ou7:=Zba ou g7 (by omega)
     obtain⟨t,hcl⟩:=Zb3 ob7 k (by omega)
     have hfr:=ob7.frozenAt k;obtain⟨cs,hbk⟩:∃ cs,w7.heap[B]? = some (.cells cs 4):=by
      rcases ob7.2 with ⟨h0,_⟩ | ⟨g,cp,cur,hv,_,hh,_⟩
      ·cases h0
      ·cases hv;exact⟨_,hh⟩
     have hst:=(ob7.stored k (.bool (!c))).1;rw [Ze6] at hst;have hgs:=Zag w7 B k (.bool (!c));have hot:=ou7.kept hgs (.inr (by simp [Value.ownBlock];omega))
     have ST7:=hide (st7.other hp hgs (by omega) hbk)
     have HST:=hide hst;have HOT:=hide hot;clear st7 ob7 ou7 hst hot hgs hbk c7 g7 st ob ou
     go_wp2
     go_roundw
     case rel=>exact ⟨k+1,bs.set k (!c),zs,by omega,by go_num,by simp [hbl],hzl2,ST7.out,HST.out,HOT.out⟩
     case measure=>simp [intOf];omega
    ·have hlk':¬(k:Int)<(ls.length:Int):=by omega
     have ST:=hide st;have OB:=hide ob;have OU:=hide ou;have HBL:=hide hbl;clear st ob ou hbl hk hlk
     go_wp2
     go_loopw [9] (fun i wr=>∃ (k:Nat) (zs:List Bool),k<=N/\i=.int .i64 (k:Int)/\zs.length=N/\SfSt w wr p z a len cap (1+yi) y (N:Int) ls ts hd (.slice a1 ls.length d1) (.slice a2 ts.length d2) v3 (.slice none 0 0)/\wr.ownsRow (z+1) 4 1 (.slice (some ⟨B,0,none⟩) ls.length ls.length) ls.length (flat blE bs)/\wr.ownsRow (z+1) 4 1 (.slice (some ⟨U,0,none⟩) N N) N (flat blE zs)) (fun i _=>20-(intOf i).toNat)
     case atStart=>exact ⟨0,zs,by omega,rfl,hzl2,ST.out,OB.out,OU.out⟩
     case round=>
      clear ST OB OU hzl2
      rename World=>we
      obtain⟨k,zs,hk,rfl,hzl2,st,ob,ou⟩:=hrel;by_cases hlk:k<N
      ·have hlk':(k:Int)<(N:Int):=by omega
       have hk0:(0:Int)<=(k:Int):=by omega
       have hp2:=ZaQ st.cur;have hnw:=st.new
       go_wp2_with fail
       refine (Zc2 p a len cap 8 we st.cur (by omega) (by omega)).mono ?_
       rintro e w7 ⟨c,rfl,c7,g7⟩;have st7:=st.grown c7 g7 hp;have ob7:=Zba ob g7 (by omega)
       have ou7:=Zba ou g7 (by omega)
       obtain⟨t,hcl⟩:=Zb3 ou7 k (by omega)
       have hfr:=ou7.frozenAt k;obtain⟨cs,hbk⟩:∃ cs,w7.heap[U]? = some (.cells cs 4):=by
        rcases ou7.2 with ⟨h0,_⟩ | ⟨g,cp,cur,hv,_,hh,_⟩
        ·cases h0
        ·cases hv;exact⟨_,hh⟩
       have hst:=(ou7.stored k (.bool (!c))).1;rw [Ze6] at hst;have hgs:=Zag w7 U k (.bool (!c));have hot:=ob7.kept hgs (.inr (by simp [Value.ownBlock];omega))
       have ST7:=hide (st7.other hp hgs (by omega) hbk)
       have HST:=hide hst;have HOT:=hide hot;clear st7 ob7 ou7 hst hot hgs hbk c7 g7 st ob ou
       go_wp2
       go_roundw
       case rel=>exact ⟨k+1,zs.set k (!c),by omega,by go_num,by simp [hzl2],ST7.out,HOT.out,HST.out⟩
       case measure=>simp [intOf];omega
      ·have hlk':¬(k:Int)<(N:Int):=by omega
       have hid:=ZjD (.slice a1 ls.length d1) (.slice a2 ts.length d2) (.slice (some ⟨B,0,none⟩) ls.length ls.length) (.slice (some ⟨U,0,none⟩) N N) N ls ts bs zs we HOK.out (by omega) (by omega) hl12.1 hl12.2 (Zjm HOK.out) (Zaq st.o1) (Zaq st.o2) (Zaq (xs:=bs) (by rw [HBL.out];exact ob)) (Zaq (xs:=zs) (by rw [hzl2];exact ou)) HBL.out hzl2
       have HID:=hide hid;have HSTO:=hide (Zh5 (bs:=bs) (zs:=zs) HOK.out);have q2:=Zaa st.box 2;have q3:=Zaa st.box 3;have q4:=Zaa st.box 4;simp at q2 q3 q4
       have ST:=hide st;clear hid st ob ou hk hlk
       go_wp2_with fail
       refine HID.out.mono ?_
       rintro e w8 ⟨o,qs,rfl,hqs,htq,ho,b8⟩;obtain⟨oa,oc,rfl⟩:=Zac ho.row;have st8:=ST.out.below b8;have q6:=Zaa st8.box 6;simp at q6
       have f6:=Zae st8.box 6;have st9:=st8.setStore hp (.slice oa qs.length oc);have r9:=(ho.in).box st8.box (Zag w8 z 6 (.slice oa qs.length oc));have hst9:Zaw (fsts qs)=true:=by rw [hqs];exact HSTO.out
       have HON:=hide (Zc2 p a len cap 3 _ st9.cur (by omega) (by omega))
       have ST9:=hide st9;have R9:=hide r9;have HS9:=hide hst9;clear hqs htq ho b8 st8 st9 r9 hst9 HID HSTO ST q2 q3 q4
       go_wp2_with fail
       refine HON.out.mono ?_
       rintro e w9 ⟨b,rfl,c9,g9⟩;have ST10:=hide (ST9.out.grown c9 g9 hp);have R10:=hide ((R9.out.cur ST9.out.cur g9).wide (show w8.heap.size<=w9.heap.size by have:=g9.size;simpa using this))
       clear c9 g9 HON q6 f6;cases b
       ·have hs10:=ST10.out.gro.size
        go_wp2
        go_loopw [12] (fun i wr=>∃ (k:Nat) (ps:List RP) (v4:Value),k<=2/\i=.int .i64 (k:Int)/\SfSt w wr p z a len cap (1+yi) y (N:Int) ls ts hd (.slice a1 ls.length d1) (.slice a2 ts.length d2) v3 v4/\RecsIn wr wr.heap.size v4 ps/\Zaw (fsts ps)=true) (fun i _=>9-(intOf i).toNat)
        case atStart=>exact ⟨0,qs,_,by omega,rfl,ST10.out,R10.out,HS9.out⟩
        case round=>
         rename World=>wf
         clear ST10 R10 HS9;obtain⟨k,ps,v4,hk,rfl,st,rin,hsp⟩:=hrel;obtain⟨a4,d4,rfl⟩:=Zac rin.row;have ST:=hide st;have RI:=hide rin;have HSP:=hide hsp;have HBE:=hide (ZaB p a len cap 3 wf st.cur (by omega) (by omega))
         clear st rin hsp
         go_wp2_with fail
         refine HBE.out.mono ?_
         rintro e w11 ⟨y3,rfl,hy30,hy31,c11,g11⟩;have RI11:=hide ((RI.out.cur ST.out.cur g11).wide g11.size);have ST11:=hide (ST.out.grown c11 g11 hp);clear c11 g11 HBE ST RI;by_cases hlt:(k:Int)<y3
         ·go_wp2
          refine wp_region_noPanic ?_
          refine Zai (S:=fun _=>True) (by kernel_rfl) 10 rfl trivial ?_
          intro ops hops hHeld;refine Zay 0 ?_ ?_ ?_ (by rw [hops.out];kernel_rfl) ?_ ?_ trivial ?_
          rotate_left 2
          ·rw [hops.out];simp only [getS];rfl
          ·intro W hW;(try dsimp only at hW);go_simp <;> with_reducible rfl
          ·exact fun _ _ _=>id
          try simp only [putS]
          refine Zay 2 ?_ ?_ ?_ (by rw [hops.out];kernel_rfl) ?_ ?_ trivial ?_
          rotate_left 2
          ·rw [hops.out];simp only [getS];rfl
          ·intro W hW;(try dsimp only at hW);go_simp <;> with_reducible rfl
          ·exact fun _ _ _=>id
          try simp only [putS]
          have st11:=ST11.out.drew;have hzn:=ST11.out.new;have hcd:=st11.cur;refine Zl4 p z a len cap _ _ _ _ _ _ a4 d4 ps w11.drew _ ops hops (ZaQ hcd) (Zab st11.box) (by omega) hcd st11.box (RI11.out.below (Below.refl _ _).drew (Nat.le_refl _)) HSP.out (by rw [ZdQ];have:=ZcO HSP.out;omega) ?_
          intro W w12 x na nc xa xc qn TT g cu b5 o5 hsq;clear hops ops;have st12:=(st11.grown cu g hp).below b5;have ST13:=hide (st12.setStore hp (.slice xa qn.length xc));have RI13:=hide ((o5.box st12.box (Zag w12 z 6 (.slice xa qn.length xc))).wide (hi':=(w12.setCell ⟨z,6,none⟩ (.slice xa qn.length xc)).heap.size) (by simp))
          have HSQ:=hide hsq;clear st11 st12 hcd g cu b5 o5 hsq ST11 RI11
          go_wp2
          go_roundw
          case rel=>exact ⟨k+1,qn,_,by omega,by go_num,ST13.out,RI13.out,HSQ.out⟩
          case measure=>simp [intOf];omega
         ·obtain ⟨a3,d3,e3⟩:=Zac ST11.out.o3
          have hbx:=ST11.out.box;rw [e3] at hbx;have q0:=Zaa hbx 0;have q1:=Zaa hbx 1;have q2:=Zaa hbx 2;have q3:=Zaa hbx 3;have q4:=Zaa hbx 4;have q5:=Zaa hbx 5;have q6:=Zaa hbx 6;simp at q0 q1 q2 q3 q4 q5 q6
          have r0:=Zaa ST11.out.res 0;have r1:=Zaa ST11.out.res 1;have r2:=Zaa ST11.out.res 2;have r3:=Zaa ST11.out.res 3;have r4:=Zaa ST11.out.res 4;have r5:=Zaa ST11.out.res 5;have r6:=Zaa ST11.out.res 6;simp at r0 r1 r2 r3 r4 r5 r6
          have fr:=Zae ST11.out.res;clear hbx
          go_wp2
          have hst:=ST11.out;rw [e3] at hst;have F:=hst.out hp RI11.out
          (try simp only [Exit.inBlock,Exit.then])
          refine bodyPost_ret (results_cell_row rfl _ _ w.heap.size 31 #[.int .i64 (1+yi),.int .i64 y,.int .i64 (N:Int),.slice a1 ls.length d1,.slice a2 ts.length d2,.slice a3 hd.length d3,.slice a4 ps.length d4] (0,0) _ rfl F.1 Tryz.underlying31 rfl (by kernel_rfl)) rfl ?_
          have hto:=ZcO HSP.out;have hhl:=HU.out.len;have htt:tot ps<=1050:=by rw [ZdQ];exact hto
          exact⟨⟨1+yi,y,⟨(N:Int),ls,ts⟩,hd⟩,_,_,_,_,ps,rfl,by
           unfold ZcE;simp only []
           rw [HOK.out,ZcK (by omega) (by omega),ZcK (by omega) (by omega),HU.out.ok,HSP.out]
           rfl,by unfold totS;simp only [];omega,F.2.1,F.2.2.1,F.2.2.2⟩
       ·have HDS:=hide (ZgG p a len cap w9 ST10.out.cur)
        go_wp2_with fail
        refine HDS.out.mono ?_
        rintro e w10 ⟨vs,qs2,rfl,rin2,hst2,hl2,c10,g10⟩;obtain⟨sa,sc,rfl⟩:=Zac rin2.row;have st10:=ST10.out.grown c10 g10 hp;have q6:=Zaa st10.box 6;simp at q6
        have f6:=Zae st10.box 6;have ST12:=hide (st10.setStore hp (.slice sa qs2.length sc));have R12:=hide ((rin2.box st10.box (Zag w10 z 6 (.slice sa qs2.length sc))).wide (hi':=(w10.setCell ⟨z,6,none⟩ (.slice sa qs2.length sc)).heap.size) (by simp))
        have HS12:=hide hst2;clear rin2 hst2 c10 g10 st10 HDS ST10 R10 HS9
        go_wp2
        go_loopw [12] (fun i wr=>∃ (k:Nat) (ps:List RP) (v4:Value),k<=2/\i=.int .i64 (k:Int)/\SfSt w wr p z a len cap (1+yi) y (N:Int) ls ts hd (.slice a1 ls.length d1) (.slice a2 ts.length d2) v3 v4/\RecsIn wr wr.heap.size v4 ps/\Zaw (fsts ps)=true) (fun i _=>9-(intOf i).toNat)
        case atStart=>exact ⟨0,qs2,_,by omega,rfl,ST12.out,R12.out,HS12.out⟩
        case round=>
         rename World=>wf
         clear ST12 R12 HS12 q6 f6;obtain⟨k,ps,v4,hk,rfl,st,rin,hsp⟩:=hrel;obtain⟨a4,d4,rfl⟩:=Zac rin.row;have ST:=hide st;have RI:=hide rin;have HSP:=hide hsp;have HBE:=hide (ZaB p a len cap 3 wf st.cur (by omega) (by omega))
         clear st rin hsp
         go_wp2_with fail
         refine HBE.out.mono ?_
         rintro e w11 ⟨y3,rfl,hy30,hy31,c11,g11⟩;have RI11:=hide ((RI.out.cur ST.out.cur g11).wide g11.size);have ST11:=hide (ST.out.grown c11 g11 hp);clear c11 g11 HBE ST RI;by_cases hlt:(k:Int)<y3
         ·go_wp2
          refine wp_region_noPanic ?_
          refine Zai (S:=fun _=>True) (by kernel_rfl) 10 rfl trivial ?_
          intro ops hops hHeld;refine Zay 0 ?_ ?_ ?_ (by rw [hops.out];kernel_rfl) ?_ ?_ trivial ?_
          rotate_left 2
          ·rw [hops.out];simp only [getS];rfl
          ·intro W hW;(try dsimp only at hW);go_simp <;> with_reducible rfl
          ·exact fun _ _ _=>id
          try simp only [putS]
          refine Zay 2 ?_ ?_ ?_ (by rw [hops.out];kernel_rfl) ?_ ?_ trivial ?_
          rotate_left 2
          ·rw [hops.out];simp only [getS];rfl
          ·intro W hW;(try dsimp only at hW);go_simp <;> with_reducible rfl
          ·exact fun _ _ _=>id
          try simp only [putS]
          have st11:=ST11.out.drew;have hzn:=ST11.out.new;have hcd:=st11.cur;refine Zl4 p z a len cap _ _ _ _ _ _ a4 d4 ps w11.drew _ ops hops (ZaQ hcd) (Zab st11.box) (by omega) hcd st11.box (RI11.out.below (Below.refl _ _).drew (Nat.le_refl _)) HSP.out (by rw [ZdQ];have:=ZcO HSP.out;omega) ?_
          intro W w12 x na nc xa xc qn TT g cu b5 o5 hsq;clear hops ops;have st12:=(st11.grown cu g hp).below b5;have ST13:=hide (st12.setStore hp (.slice xa qn.length xc));have RI13:=hide ((o5.box st12.box (Zag w12 z 6 (.slice xa qn.length xc))).wide (hi':=(w12.setCell ⟨z,6,none⟩ (.slice xa qn.length xc)).heap.size) (by simp))
          have HSQ:=hide hsq;clear st11 st12 hcd g cu b5 o5 hsq ST11 RI11
          go_wp2
          go_roundw
          case rel=>exact ⟨k+1,qn,_,by omega,by go_num,ST13.out,RI13.out,HSQ.out⟩
          case measure=>simp [intOf];omega
         ·obtain ⟨a3,d3,e3⟩:=Zac ST11.out.o3
          have hbx:=ST11.out.box;rw [e3] at hbx;have q0:=Zaa hbx 0;have q1:=Zaa hbx 1;have q2:=Zaa hbx 2;have q3:=Zaa hbx 3;have q4:=Zaa hbx 4;have q5:=Zaa hbx 5;have q6:=Zaa hbx 6;simp at q0 q1 q2 q3 q4 q5 q6
          have r0:=Zaa ST11.out.res 0;have r1:=Zaa ST11.out.res 1;have r2:=Zaa ST11.out.res 2;have r3:=Zaa ST11.out.res 3;have r4:=Zaa ST11.out.res 4;have r5:=Zaa ST11.out.res 5;have r6:=Zaa ST11.out.res 6;simp at r0 r1 r2 r3 r4 r5 r6
          have fr:=Zae ST11.out.res;clear hbx
          go_wp2
          have hst:=ST11.out;rw [e3] at hst;have F:=hst.out hp RI11.out
          (try simp only [Exit.inBlock,Exit.then])
          refine bodyPost_ret (results_cell_row rfl _ _ w.heap.size 31 #[.int .i64 (1+yi),.int .i64 y,.int .i64 (N:Int),.slice a1 ls.length d1,.slice a2 ts.length d2,.slice a3 hd.length d3,.slice a4 ps.length d4] (0,0) _ rfl F.1 Tryz.underlying31 rfl (by kernel_rfl)) rfl ?_
          have hto:=ZcO HSP.out;have hhl:=HU.out.len;have htt:tot ps<=1050:=by rw [ZdQ];exact hto
          exact⟨⟨1+yi,y,⟨(N:Int),ls,ts⟩,hd⟩,_,_,_,_,ps,rfl,by
           unfold ZcE;simp only []
           rw [HOK.out,ZcK (by omega) (by omega),ZcK (by omega) (by omega),HU.out.ok,HSP.out]
           rfl,by unfold totS;simp only [];omega,F.2.1,F.2.2.1,F.2.2.2⟩
end Go.Proofs.YtcimbiinljcifaaGreat
