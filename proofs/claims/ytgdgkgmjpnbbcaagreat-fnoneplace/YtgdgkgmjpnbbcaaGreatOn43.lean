/-
  OnLaw
-/
import Derived.Test.YtgdgkgmjpnbbcaaGreatOn22
import Derived.Test.YtgdgkgmjpnbbcaaGreatOn23
import Derived.Test.YtgdgkgmjpnbbcaaGreatOn20
import Derived.Test.YtgdgkgmjpnbbcaaGreatOn25
import Derived.Test.YtgdgkgmjpnbbcaaGreatOn38
import Derived.Test.YtgdgkgmjpnbbcaaGreatOn40
import Derived.Test.YtgdgkgmjpnbbcaaGreatOn42
import Derived.Test.YtgdgkgmjpnbbcaaGreatOn14
import Derived.Test.YtgdgkgmjpnbbcaaGreatOn10
import Derived.Deep.CutRange
namespace Go.Proofs.YtgdgkgmjpnbbcaaGreat
open Go.RowKit
set_option linter.unusedSimpArgs false
set_option linter.unusedVariables false
set_option maxRecDepth 100000
set_option maxHeartbeats 8000000
theorem Zle {x:NetD}(h:Za2 x=true):∀ t∈x.ts,1<=t.o/\t.o<=x.n:=by
 simp only [Za2,Bool.and_eq_true] at h
 intro t ht;have:=ZkC h.2 t ht;simp only [Zd4,inB,Bool.and_eq_true,decide_eq_true_eq] at this
 omega
theorem Zep {P:Program}{o:Oper}{ev:Operand->Value}{w:World}(ty:TypeId)(x:Operand)(ho:o.op=.load ty x)
  (g:Nat) (hx:ev x=.pointer (some ⟨g,0,none⟩)) (t:TypeId) (cs:Array Value) (fr:Nat × Nat) (d:TypeDesc) (hg:w.heap[g]? = some (.cells cs t fr))
  (hu:P.underlying ty=some d) (hd:(match d with | .struct _ | .array _ _=>true | _=>false)=true) (hi:(P.info? ty).map (·.size)=some cs.size):(execOp ev o).run P w=.ok (.value (.agg cs)) w:=by
 unfold execOp;simp only [ho,hx,Instr.loadAt,Instr.sureAddr,Sem.run_bind,Sem.run_pure,Result.andThen_ok,run_loadVar_row w g t ty cs fr d hg hu hd hi]
theorem Zjo {xs:List RecD}{src:Int}{ds:List WayD}(h:Zay (Zau xs [] src) ds):ds=[]:=by
 cases ds with
 | nil=>rfl
 | cons d ds=>
  have h1:=h.2 d.«to»;rw [Zbw h.1 (List.mem_cons_self)] at h1;obtain⟨_,⟨w,⟨_,a,ha,_⟩,_⟩,_⟩:=h1;cases ha
theorem Zkj {B n:Nat}{w w1:World}(h:Below B w w1):Below B w (w1.drewN n):=h.trans ⟨rfl,rfl,rfl,Nat.le_refl _,fun _ _=>rfl⟩
theorem fnOnePlace_walk (a:Option Addr)(len cap:Nat)(w:World)(hw:len<=1048576->Code w a len w.heap.size):
  Calls Tryz.prog 3 #[.slice a len cap] w fun e w'=>e=.returned (.bool true)/\Below w.heap.size w w':=by
 have HW:=hide hw;clear hw;by_cases hlen:len<=1048576
 case neg=>
  have HBIG:=hide (ZlU a len cap);rw [decide_eq_true (show (1048576:Int)<(len:Int) by omega)] at HBIG
  go_enter Tryz.func3,Tryz.ntmps3
  go_wp2_with fail
  refine (HBIG.out _).mono ?_
  rintro e w1 ⟨rfl,rfl⟩
  go_wp2
  go_ret
  exact⟨rfl,Below.refl _ _⟩
 have HBIG:=hide (ZlU a len cap);rw [decide_eq_false (show ¬(1048576:Int)<(len:Int) by omega)] at HBIG
 have HCODE:=hide (HW.out hlen);clear HW
 go_enter Tryz.func3,Tryz.ntmps3
 go_wp2_with fail
 refine (HBIG.out _).mono ?_
 rintro e w1 ⟨rfl,rfl⟩
 go_wp2_with fail
 refine (ZkX a len cap _ HCODE.out).mono ?_
 rintro e w1 ⟨x,v,y,z,ys,zs,rfl,hok,hnet,hbl,b1⟩;obtain⟨hy,hz,hyl,hzl⟩:=hbl.out;have hth:=Zle hok;have hn6:=Zh5 hok;have hl12:=ZkA hok;obtain⟨n,ls,ts⟩:=x;obtain⟨v1,v2,rfl,h1,h2⟩:=hnet;simp only [] at hth hn6 hl12 h1 h2 hyl hzl
 obtain⟨N,rfl⟩:∃ N:Nat,n=(N:Int):=⟨n.toNat,by omega⟩
 obtain⟨a1,c1,rfl⟩:=h1.shape;obtain⟨a2,c2,rfl⟩:=h2.shape;obtain⟨a3,c3,rfl⟩:=hy.shape;obtain⟨a4,c4,rfl⟩:=hz.shape;have BA:Below w1.heap.size w1 (w1.alloc (.cells #[.int .i64 (N:Int),.slice a1 ls.length c1,.slice a2 ts.length c2] 27)):=(Below.refl _ _).alloc (Nat.le_refl _) _;have hx1:=heap_alloc_new w1 (.cells #[.int .i64 (N:Int),.slice a1 ls.length c1,.slice a2 ts.length c2] 27);have hsA:(w1.alloc (.cells #[.int .i64 (N:Int),.slice a1 ls.length c1,.slice a2 ts.length c2] 27)).heap.size=w1.heap.size+1:=by simp
 have HOK:=hide (Zo8 hok);have HASC:=hide (Zo2 hok);have HB1:=hide (b1.trans (BA.mono b1.size));have hN1:1<=N:=by omega
 have hN6:N<=6:=by omega
 have HLA:=hide (ZaR.then h1 BA);have HTA:=hide (ZaR.then h2 BA);have HYA:=hide (ZaR.then hy BA);have HZA:=hide (ZaR.then hz BA);have hl12a:=hl12.1;have hl12b:=hl12.2;have HTH:=hide hth;have HYL:=hide (show ys.length=ls.length from hyl)
 have HZL:=hide (show zs.length=N by omega)
 clear h1 h2 hy hz hth hl12 hbl b1 hok hn6 hyl hzl HCODE HBIG
 go_wp2
 have st0:OnSt (w1.alloc (.cells #[.int .i64 (N:Int),.slice a1 ls.length c1,.slice a2 ts.length c2] 27)) (((w1.alloc (.cells #[.int .i64 (N:Int),.slice a1 ls.length c1,.slice a2 ts.length c2] 27)).alloc (.cells #[.int .i64 (N:Int),.slice none 0 0,.slice a2 ts.length c2] 27)).alloc (.cells #[] 4)) (w1.heap.size+1) (N:Int) (.slice a2 ts.length c2) none (some ⟨w1.heap.size+1+1,0,none⟩) 0 0 [] []:=by
  have e1:=heap_alloc_new (w1.alloc (.cells #[.int .i64 (N:Int),.slice a1 ls.length c1,.slice a2 ts.length c2] 27)) (.cells #[.int .i64 (N:Int),.slice none 0 0,.slice a2 ts.length c2] 27);rw [hsA] at e1;have hs2:((w1.alloc (.cells #[.int .i64 (N:Int),.slice a1 ls.length c1,.slice a2 ts.length c2] 27)).alloc (.cells #[.int .i64 (N:Int),.slice none 0 0,.slice a2 ts.length c2] 27)).heap.size=w1.heap.size+1+1:=by simp
  refine⟨((Below.refl _ _).alloc (Nat.le_refl _) _).alloc (by simp) _,(Below.heap_alloc _ _ _ (by simp)).trans e1,World.ownsRow_nil _ _ _ _,?_⟩
  have h9:=World.ownsRow_lit ((w1.alloc (.cells #[.int .i64 (N:Int),.slice a1 ls.length c1,.slice a2 ts.length c2] 27)).alloc (.cells #[.int .i64 (N:Int),.slice none 0 0,.slice a2 ts.length c2] 27)) (base:=w1.heap.size+1) (e:=4) (size:=1) #[] 0 (by simp) (by unfold maxLen;omega) (by simp)
  rw [hs2] at h9;exact h9
 have HX1:=hide hx1;have ST0:=hide st0;clear st0 hx1;obtain⟨wA,hwA⟩:∃ W,W=w1.alloc (.cells #[.int .i64 (N:Int),.slice a1 ls.length c1,.slice a2 ts.length c2] 27):=⟨_,rfl⟩;rw [<-hwA] at HX1 ST0 BA hsA HB1 HLA HTA HYA HZA |-;clear hwA;obtain⟨W0,hW0⟩:∃ W,W=(wA.alloc (.cells #[.int .i64 (N:Int),.slice none 0 0,.slice a2 ts.length c2] 27)).alloc (.cells #[] 4):=⟨_,rfl⟩;rw [<-hW0] at ST0 |-;clear hW0;obtain⟨z,hz⟩:∃ z,z=w1.heap.size+1:=⟨_,rfl⟩;have hzA:z=wA.heap.size:=by omega
 rw [<-hz] at ST0 |-;have HZ:=hide hz;have HZW:=hide hzA;clear hz hzA hsA
 go_loopw [7,8] (fun s i wr=>∃ (k:Nat) (ua oa:Option Addr) (uc oc:Nat),k<=ls.length/\i=.int .i64 (k:Int)/\s=.slice oa (ZcS ls ys k).length oc/\Hid (OnSt wA wr z (N:Int) (.slice a2 ts.length c2) ua oa uc oc (Zbk ls k) (ZcS ls ys k))) (fun _ i _=>ls.length-(intOf i).toNat)
 case atStart=>exact ⟨0,none,_,0,0,by omega,rfl,rfl,ST0⟩
 case round=>
  obtain⟨k,ua,oa,uc,oc,hk,rfl,rfl,ST⟩:=hrel;have hlen2:=(Ze9 HYL.out k hk).2;have hlen3:(ZcS ls ys k).length<=k:=by rw [(Ze9 HYL.out k hk).1];exact hlen2
  have hxr:=(ST.out.bel.block _ (Zab HX1.out)).trans HX1.out;have n1:=Zaa hxr 1;have n0:=Zaa hxr 0;simp only [List.getElem?_toArray,List.getElem?_cons_succ,List.getElem?_cons_zero] at n0 n1
  by_cases hlt:k<ls.length
  ·obtain ⟨l,hl⟩:∃ l,ls[k]? = some l:=⟨ls[k],List.getElem?_eq_getElem hlt⟩
   obtain⟨b1,hb1⟩:∃ b,ys[k]? = some b:=⟨ys[k]'(by have:=HYL.out;omega),List.getElem?_eq_getElem _⟩
   obtain⟨g,off,cp,hve,hgg,d0,d1,d2,d3⟩:=Zbh.cells HLA.out k l hl;cases hve
   obtain⟨g2,off2,cp2,hve2,hgg2,f0⟩:=Zb1.cell HYA.out k b1 hb1;cases hve2
   have hbel:=ST.out.bel;rw [<-hbel.cell (p:=⟨g,off+k*4,none⟩) hgg] at d0;rw [<-hbel.cell (p:=⟨g,off+k*4+1,none⟩) hgg] at d1;rw [<-hbel.cell (p:=⟨g,off+k*4+2,none⟩) hgg] at d2;rw [<-hbel.cell (p:=⟨g,off+k*4+3,none⟩) hgg] at d3;rw [<-hbel.cell (p:=⟨g2,off2+k,none⟩) hgg2] at f0;have hgw:g<wr.heap.size:=by have:=hbel.size;omega
   have hgw2:g2<wr.heap.size:=by have:=hbel.size;omega
   have hxw:w1.heap.size<wr.heap.size:=Zab hxr;have hki:(0:Int)<=(k:Int):=by omega
   have hkj:(k:Int)<(ls.length:Int):=by omega
   have hkb:(k:Int)<(ys.length:Int):=by have:=HYL.out;omega
   obtain⟨la,lb,lc,lr⟩:=l;have HL:=hide hl;have HBB:=hide hb1;clear hl hb1 hbel;have HFA:=hide ((ST.out.bel.cell (p:=⟨g2,off2+k,none⟩) hgg2).symm.trans f0);have hprev:∀ j,k=j+1->∃ q:Lk,ls[j]? = some q/\wr.cell? ⟨g,off+j*4,none⟩=some (.int .i64 q.a)/\wr.cell? ⟨g,off+j*4+1,none⟩=some (.int .i64 q.b):=fun j hj=>by
    subst hj;obtain⟨q,hq⟩:∃ q,ls[j]? = some q:=⟨ls[j]'(by omega),List.getElem?_eq_getElem _⟩
    obtain⟨g',off',cp',hve',hgg',e0,e1,_⟩:=Zbh.cells HLA.out j q hq;cases hve'
    exact⟨q,hq,(ST.out.bel.cell (p:=⟨g,off+j*4,none⟩) hgg).trans e0,(ST.out.bel.cell (p:=⟨g,off+j*4+1,none⟩) hgg).trans e1⟩
   have HPREV:=hide hprev;clear hprev f0;have BAL:Below wr.heap.size wr (wr.alloc (.cells #[.int .i64 la,.int .i64 lb,.int .i64 lc,.int .i64 0] 32)):=(Below.refl _ _).alloc (Nat.le_refl _) _;have hxl:=heap_alloc_new wr (.cells #[.int .i64 la,.int .i64 lb,.int .i64 lc,.int .i64 0] 32);have l0:=Zaa hxl 0;have l1:=Zaa hxl 1;simp only [List.getElem?_toArray,List.getElem?_cons_succ,List.getElem?_cons_zero] at l0 l1
   go_wp2
   go_cut [73] from 35 to 86 (fun s wx=>s=.bool (dupL ls k)/\Below wr.heap.size wr wx/\wx.heap[wr.heap.size]? = some (.cells #[.int .i64 la,.int .i64 lb,.int .i64 lc,.int .i64 0] 32))
   case first=>
    rcases Nat.eq_zero_or_pos k with hk0 | hkp
    ·have hz1:¬((k:Int)>0):=by omega
     have hz2:decide (0<k)=false:=by simp;omega
     have hz3:¬0<k:=by omega
     have HD:=hide (show dupL ls k=false by rw [hk0];rfl)
     clear hk0
     as_aux_lemma=>
      go_quiet (fail)
      go_wp2_with fail
      go_meet
      case rel=>exact ⟨by rw [HD.out],Zkj BAL,hxl⟩
    ·obtain ⟨j,rfl⟩:∃ j,k=j+1:=⟨k-1,by omega⟩
     obtain⟨q,hq,g0,g1⟩:=HPREV.out j rfl;rw [<-BAL.cell (p:=⟨g,off+j*4,none⟩) hgw] at g0;rw [<-BAL.cell (p:=⟨g,off+j*4+1,none⟩) hgw] at g1;have hj1:(0:Int)<=(j:Int):=by omega
     have hj2:(j:Int)<(ls.length:Int):=by omega
     have hj3:(0:Int)<(j:Int)+1:=by omega
     have hj4:(j:Int)+1>0:=by omega
     have hj5:decide ((0:Int)<(j:Int)+1)=true:=by simp
     have hj6:IntKind.i64.wrap (j:Int)=(j:Int):=by simp [IntKind.wrap,IntKind.bits,IntKind.signed];omega
     have hj7:IntKind.i64.wrap ((j:Int)+1-1)=(j:Int):=by rw [show (j:Int)+1-1=(j:Int) by omega];exact hj6
     obtain⟨qa,qb,qc,qr⟩:=q;have HDU:=hide (show dupL ls (j+1)=(qa==la&&qb==lb) by simp only [dupL,hq,HL.out])
     simp only [] at g0 g1
     clear hkp hq;by_cases hea:qa=la
     ·have hkd:(qa==la)=true:=by simpa using hea
      by_cases heb:qb=lb
      ·have hke:(qb==lb)=true:=by simpa using heb
       rw [hkd,hke] at HDU;clear hea heb
       as_aux_lemma=>
        go_quiet (fail)
        go_wp2_with fail
        go_meet
        case rel=>exact ⟨by rw [HDU.out];rfl,Zkj BAL,hxl⟩
      ·have hke:(qb==lb)=false:=by simpa using heb
       rw [hkd,hke] at HDU;clear hea heb
       as_aux_lemma=>
        go_quiet (fail)
        go_wp2_with fail
        go_meet
        case rel=>exact ⟨by rw [HDU.out];rfl,Zkj BAL,hxl⟩
     ·have hkd:(qa==la)=false:=by simpa using hea
      rw [hkd] at HDU;clear hea
      as_aux_lemma=>
       go_quiet (fail)
       go_wp2_with fail
       go_meet
       case rel=>exact ⟨by rw [HDU.out];rfl,Zkj BAL,hxl⟩
   case rest=>
    obtain⟨rfl,BD,hxd⟩:=hcut;clear hxl BAL l0 l1 HPREV d0 d1 d2 d3 n0 n1 hxr;have ST1:=hide (ST.out.below BD);have hwc:=BD.size;cases hd:dupL ls k
    ·have HD:=hide hd
     clear hd;have t0:=Zaa hxd 0;have t1:=Zaa hxd 1;have t2:=Zaa hxd 2;have t3:=Zaa hxd 3;have hbx:=ST1.out.box;have y1:=Zaa hbx 1;simp only [List.getElem?_toArray,List.getElem?_cons_succ,List.getElem?_cons_zero] at t0 t1 t2 t3 y1
     have hzl:=Zab hbx;clear hbx hxd BD
     go_wp2_with (first
      | (at_builtin;refine ZaG Zgz (by omega) (by omega) _ rfl _ _ 24 rfl z 32 Tryz.underlying24 (.agg #[.int .i64 0,.int .i64 0,.int .i64 0,.int .i64 0]) rfl Tryz.infoLkO _ (Zbk ls k) ⟨la,lb,lc,0⟩ (ZnP _) rfl (ST1.out.alloc _).lks ⟨wc.heap.size,0,none⟩ 1 rfl (Zap (cs:=lkE ⟨la,lb,lc,0⟩)) (by omega) (by simp;omega) ?_))
     intro v' w6 ho6 gr6;have ho7:w6.ownsRow z 32 4 v' ((Zbk ls k).length+1) (flat lkE (Zbk ls k++[⟨la,lb,lc,0⟩])):=by simpa using ho6
     clear ho6;obtain⟨na,nc,rfl⟩:=Zac ho7;obtain⟨bx6,st6⟩:=OnSt.link (ST1.out.alloc _) HZW.out ho7 gr6;have c6:=Zaa bx6 1;have f6:=Zae bx6 1;simp only [List.getElem?_toArray,List.getElem?_cons_succ,List.getElem?_cons_zero] at c6
     have hz6:=Zab bx6;have q0:=(st6.bel.cell (p:=⟨g2,off2+k,none⟩) hgg2).trans HFA.out;have hne:g2≠z:=by have:=HZW.out;omega
     have hg6:g2<(w6.setCell ⟨z,1,none⟩ (.slice na ((Zbk ls k).length+1) nc)).heap.size:=by have:=HZW.out;simp;omega
     have hz7:z<(w6.setCell ⟨z,1,none⟩ (.slice na ((Zbk ls k).length+1) nc)).heap.size:=by simp;omega
     have ST6:=hide st6;have HQ0:=hide q0;clear st6 bx6 gr6 ho7 t0 t1 t2 t3 y1 q0
     go_upto_region 13 with fail
     obtain⟨W6,hW6⟩:∃ W,W=w6.setCell ⟨z,1,none⟩ (.slice na ((Zbk ls k).length+1) nc):=⟨_,rfl⟩;rw [<-hW6] at ST6 HQ0 hg6 hz7 |-;clear hW6 c6 f6;have q0:=HQ0.out
     go_wp2_with (first
      | (at_builtin;refine ZaG ZlV (by omega) (by omega) _ rfl _ _ 28 rfl z 4 Tryz.underlying28 (.bool false) rfl Tryz.infoBoO _ (ZcS ls ys k) b1 (ZlW _) rfl (ST6.out.alloc _).bls ⟨W6.heap.size,0,none⟩ 1 rfl (Zap (cs:=blE b1)) (by omega) (by simp;omega) ?_))
     intro v'' w8 ho8 gr8;have ho9:w8.ownsRow z 4 1 v'' ((ZcS ls ys k).length+1) (flat blE (ZcS ls ys k++[b1])):=by simpa using ho8
     clear ho8;obtain⟨ma,mc,rfl⟩:=Zac ho9;have st8:=OnSt.bool (ST6.out.alloc _) HZW.out ho9 gr8;have eL:Zbk ls (k+1)=Zbk ls k++[⟨la,lb,lc,0⟩]:=ZgG HD.out HL.out;have eB:=Zi0 HD.out HBB.out;have ST8:=hide (show OnSt wA w8 z (N:Int) (.slice a2 ts.length c2) na ma nc mc (Zbk ls (k+1)) (ZcS ls ys (k+1)) by rw [eL,eB];exact st8)
     have HRF:=hide (show Value.slice ma ((ZcS ls ys k).length+1) mc=.slice ma (ZcS ls ys (k+1)).length mc by rw [eB];simp)
     clear st8 ho9 gr8 ST6 ST1 ST eL eB q0 HQ0
     go_wp2
     go_roundw
     case rel=>exact ⟨k+1,na,ma,nc,mc,by omega,by go_num,HRF.out,ST8⟩
     case measure=>simp [intOf];omega
    ·have ST2:=hide (show OnSt wA wc z (N:Int) (.slice a2 ts.length c2) ua oa uc oc (Zbk ls (k+1)) (ZcS ls ys (k+1)) by rw [ZdX hd,ZgF hd];exact ST1.out)
     have HRF:=hide (show Value.slice oa (ZcS ls ys k).length oc=.slice oa (ZcS ls ys (k+1)).length oc by rw [ZgF hd])
     clear hd ST1 ST hxd BD
     go_wp2
     go_roundw
     case rel=>exact ⟨k+1,ua,oa,uc,oc,by omega,by go_num,HRF.out,ST2⟩
     case measure=>simp [intOf];omega
  ·have hkn:k=ls.length:=by omega
   have hkj:¬(k:Int)<(ls.length:Int):=by omega
   have HOK2:=hide (show Za2 ⟨(N:Int),Zbk ls k,ts⟩=true by rw [hkn];exact HOK.out)
   have HFL:=hide (show ∀ l∈Zbk ls k,l.r=0 by rw [hkn];exact Zn0 HASC.out.1)
   have HLN:=hide (Ze9 HYL.out k hk).1;obtain⟨L,hL⟩:∃ L,L=Zbk ls k:=⟨_,rfl⟩;obtain⟨Bl,hBl⟩:∃ Bl,Bl=ZcS ls ys k:=⟨_,rfl⟩;rw [<-hL] at ST HOK2 HFL HLN hlen2;rw [<-hBl] at ST HLN |-;have hL12:L.length<=12:=by omega
   have hbx:=ST.out.box;have y0:=Zaa hbx 0;have y1:=Zaa hbx 1;have y2:=Zaa hbx 2;simp only [List.getElem?_toArray,List.getElem?_cons_succ,List.getElem?_cons_zero] at y0 y1 y2
   have HID:=hide (Zlu (.slice ua L.length uc) (.slice a2 ts.length c2) (.slice oa Bl.length oc) (.slice a4 zs.length c4) N L ts Bl zs wr HOK2.out hN1 hN6 hL12 hl12b HTH.out (Zar ST.out.lks) (ZaR.then HTA.out ST.out.bel) (Zar ST.out.bls) (ZaR.then HZA.out ST.out.bel) HLN.out HZL.out);have HBX:=hide hbx;have HBW:=hide (HB1.out.trans (ST.out.bel.mono HB1.out.size));have HTR:=hide (show Zbv wr (.slice a2 ts.length c2) ts wr.heap.size from ZaR.then HTA.out ST.out.bel)
   have HZR:=hide (show Zb1 wr (.slice a4 zs.length c4) zs wr.heap.size from ZaR.then HZA.out ST.out.bel)
   have HLR:=hide (show Zbh wr (.slice ua L.length uc) L wr.heap.size from Zar ST.out.lks)
   clear hkn hL hBl hbx hxr hlen3 ST ST0 HX1 HLA HYA HTA HZA BA HZ HZW HOK hlt hk HLN
   go_wp2_with fail
   refine HID.out.mono ?_
   rintro e w3 ⟨o,qs,rfl,hqs,htq,ho,b3⟩;obtain⟨oa3,oc3,rfl⟩:=Zac ho.row;have hx3:=(b3.block _ (Zab HBX.out)).trans HBX.out;have B3:Below w.heap.size w w3:=HBW.out.trans (b3.mono HBW.out.size);obtain⟨xs,hxs⟩:∃ xs,xs=fsts qs:=⟨_,rfl⟩;have hst:ZaE xs=true:=by rw [hxs,hqs];exact ZjH HOK2.out
   have hk2:∀ r∈xs,r.kind≠2:=by rw [hxs,hqs];exact ZmC HOK2.out (Zhp HFL.out)
   have hhm:∀ (v:Nat) (ds:List WayD),1<=v/\v<=6->Zbn xs 0 (v:Int) ds->ds≠[]->(0:Int)∈ZaC L (v:Int):=fun v ds hv hw hne=>by
    rw [hxs,hqs] at hw;exact Zn1 (by rw [<-hqs, <-hxs];exact hst) hv hw hne
   have htx:∀ (j:Nat) (t:Th),ts[j]? = some t->upB zs (t.o-1).toNat=true->ZbV t∈xs:=fun j t ht hu=>by
    rw [hxs,hqs];exact ZmD (Zhp HFL.out) HASC.out.2.1 ht hu
   have HAR:=hide (fun (f:Int) W (hb:Below w3.heap.size w3 W)=>ZfK (.int .i64 (N:Int)) (.slice ua L.length uc) (.slice a2 ts.length c2) L f W (by omega) (ZaR.then HLR.out (b3.trans (hb.mono b3.size))))
   have HTR3:=hide (fun W (hb:Below w3.heap.size w3 W)=>(ZaR.then HTR.out (b3.trans (hb.mono b3.size)):Zbv W (.slice a2 ts.length c2) ts W.heap.size))
   have HZR3:=hide (fun W (hb:Below w3.heap.size w3 W)=>(ZaR.then HZR.out (b3.trans (hb.mono b3.size)):Zb1 W (.slice a4 zs.length c4) zs W.heap.size))
   have HRI:=hide (fun u al hi bo (f:Int) W (hb:Below w3.heap.size w3 W) (ha:ZaP W u al hi) (h3:w3.heap.size<=hi) (hh:hi<=W.heap.size) (hal:al.length<=1048576)=>ZjN (.slice oa3 qs.length oc3) u qs al hi bo f W ((ho.in.below hb (Nat.le_refl _)).wide h3) ha hh (by omega) hal (by rw [<-hxs];exact hst))
   have HRS:=hide (fun u al hi bo (f:Int) W (hb:Below w3.heap.size w3 W) (ha:ZaP W u al hi) (h3:w3.heap.size<=hi) (hh:hi<=W.heap.size) (hal:al.length<=1048576)=>Zj5 (.slice oa3 qs.length oc3) u qs al hi bo f W ((ho.in.below hb (Nat.le_refl _)).wide h3) ha hh (by omega) hal (by rw [<-hxs];exact hst))
   have HWI:=hide (fun u al hi (f:Int) W (hb:Below w3.heap.size w3 W) (ha:ZaP W u al hi) (h3:w3.heap.size<=hi) (hh:hi<=W.heap.size) (hal:al.length<=1048576)=>ZdC (.slice oa3 qs.length oc3) u qs al hi f W ((ho.in.below hb (Nat.le_refl _)).wide h3) ha hh (by omega) hal)
   have HTL:=hide (fun u al hi (f:Int) W (hb:Below w3.heap.size w3 W) (ha:ZaP W u al hi) (h3:w3.heap.size<=hi) (hh:hi<=W.heap.size) (hal:al.length<=1048576)=>Zmm (.slice oa3 qs.length oc3) u qs al hi f 0 W ((ho.in.below hb (Nat.le_refl _)).wide h3) ha hh (by omega) hal)
   have HWS:=hide (fun (f:Int) W (hb:Below w3.heap.size w3 W)=>ZdH (.slice oa3 qs.length oc3) qs w3.heap.size 0 f W (ho.in.below hb (Nat.le_refl _)) hb.size (by omega))
   rw [<-hxs] at HRI HRS HWI HTL HWS;have HSTO:=hide hst;have HK2:=hide hk2;have HHM:=hide hhm;have HTX:=hide htx;have HX3:=hide hx3;have HB3:=hide B3;clear hqs htq ho b3 hst hk2 hhm htx hx3 B3 HID HBX HBW HTR HZR HLR HOK2 hxs y0 y1 y2
   go_wp2
   go_loopw [12] (fun i wr=>∃ v:Nat,1<=v/\v<=N+1/\i=.int .i64 (v:Int)/\Below w3.heap.size w3 wr) (fun i _=>8-(intOf i).toNat)
   case atStart=>exact ⟨1,by omega,by omega,rfl,Below.refl _ _⟩
   case round=>
    rename World=>wa
    obtain⟨v,hv1,hvN,rfl,ba⟩:=hrel;have hxa:=(ba.block _ (Zab HX3.out)).trans HX3.out;have m0:=Zaa hxa 0;have m1:=Zaa hxa 1;have m2:=Zaa hxa 2;simp only [List.getElem?_toArray,List.getElem?_cons_succ,List.getElem?_cons_zero] at m0 m1 m2
    have hba:=ba.size;have HXA:=hide hxa;clear hxa;by_cases hlv:v<=N
    ·have hlv':(v:Int)<=(N:Int):=by omega
     have HBA:=hide ba;clear ba
     go_wp2_with fail
     refine (HAR.out (v:Int) _ HBA.out).mono ?_
     rintro e w4 ⟨u,rfl,hu,b4⟩;obtain⟨al,HAL⟩:∃ al,Hid (al=ZaC L (v:Int)):=⟨_,hide rfl⟩;rw [<-HAL.out] at hu;have hal3:al.length<=3:=by rw [HAL.out];exact ZcJ L _
     have HA1:=hide (show al=[]\/al=[0] by rw [HAL.out];exact Zi1 HFL.out _)
     obtain⟨ua4,uc4,rfl⟩:=Zac hu;rw [<-Zcq] at hu;have hb4:=b4.size;have HX4:=hide ((b4.block _ (Zab HXA.out)).trans HXA.out);have HB4:=hide (HBA.out.trans (b4.mono hba));have HU4:=hide (ZaW hu);clear hu b4 m0 m1 m2
     go_wp2_with fail
     refine (HTL.out _ al w4.heap.size (v:Int) _ HB4.out HU4.out HB4.out.size (Nat.le_refl _) (by omega)).mono ?_
     rintro e w5 ⟨x5,q5,rfl,ht5,ho5,b5⟩;have hq5:q5=[]:=by have h9:=Zm9 HA1.out ht5;simpa [fsts] using h9
     subst hq5;obtain⟨x5a,x5c,rfl⟩:=Zac ho5.row;have hb5:=b5.size;have hx5:=(b5.block _ (Zab HX4.out)).trans HX4.out;have m0:=Zaa hx5 0;have m1:=Zaa hx5 1;have m2:=Zaa hx5 2;simp only [List.getElem?_toArray,List.getElem?_cons_succ,List.getElem?_cons_zero] at m0 m1 m2
     have HX5:=hide hx5;have HB5:=hide (HB4.out.trans (b5.mono HB4.out.size));clear ht5 ho5 b5 hx5 HB4 HX4 HU4
     go_wp2_with fail
     refine (HAR.out (v:Int) _ HB5.out).mono ?_
     rintro e w6 ⟨u6,rfl,hu6,b6⟩;rw [<-HAL.out] at hu6;obtain⟨ua6,uc6,rfl⟩:=Zac hu6;rw [<-Zcq] at hu6;have hb6:=b6.size;have HX6:=hide ((b6.block _ (Zab HX5.out)).trans HX5.out);have HB6:=hide (HB5.out.trans (b6.mono HB5.out.size));have HU6:=hide (ZaW hu6);clear hu6 b6 m0 m1 m2
     go_wp2_with fail
     refine (HRI.out _ al w6.heap.size false (v:Int) _ HB6.out HU6.out HB6.out.size (Nat.le_refl _) (by omega)).mono ?_
     rintro e w7 ⟨vl,ql,rfl,hir,hol,b7⟩;obtain⟨qla,qlc,rfl⟩:=Zac hol.row;have hb7:=b7.size;have HX7:=hide ((b7.block _ (Zab HX6.out)).trans HX6.out);have HB7:=hide (HB6.out.trans (b7.mono HB6.out.size));have HIR:=hide hir;have HOL7:=hide hol;clear hir hol b7
     go_wp2_with fail
     refine (HWS.out (v:Int) _ HB7.out).mono ?_
     rintro e w8 ⟨vw,ww,rfl,hww,how,b8⟩;obtain⟨wwa,wwc,rfl⟩:=Zac how.row;have hb8:=b8.size;have HX8:=hide ((b8.block _ (Zab HX7.out)).trans HX7.out);have HB8:=hide (HB7.out.trans (b8.mono HB7.out.size));have HOL8:=hide (HOL7.out.below b8 (Nat.le_refl _));have hwe:=hww.eq;have hlaw:=Zo7 HK2.out (v:=(v:Int)) (fun hne=>by rw [HAL.out];exact HHM.out v _ ⟨hv1,by omega⟩ hww (by rw [hwe];exact hne)) HIR.out
     have htq:totQ ql<=1048576:=by have:=Zls HIR.out HSTO.out;rw [totQ_D];omega
     have htw:totW ww<=1048576:=by
      have hg:=hww.asc;have h1:=Zci hg.1 (fun d hd=>(hg.2 d hd).1.node)
      have h2:=ZeZ (ps:=ww) (by simpa [Zag] using h1) (fun d hd=>(hg.2 d hd).1.len)
      omega
     have HWT:=hide (fun (o:Int) W (hb:Below w8.heap.size w8 W)=>ZbT (.slice wwa ww.length wwc) ww w7.heap.size w8.heap.size o W (how.below hb (Nat.le_refl _)) hb.size htw)
     rw [hwe] at HWT;have HLAW:=hide hlaw;have hql:=Zoy ql;clear hww how b8 hwe hlaw HOL7 HX7 HB7 HB6 HX6 HU6 HB5 HX5 HIR HA1 HAL HBA HXA htw
     go_wp2
     go_loopw [15] (fun i wr=>∃ k:Nat,k<=ql.length/\i=.int .i64 (k:Int)/\Below w8.heap.size w8 wr) (fun i _=>ql.length-(intOf i).toNat)
     case atStart=>exact ⟨0,by omega,rfl,Below.refl _ _⟩
     case round=>
      rename World=>wb
      obtain⟨k,hk,rfl,hnx⟩:=hrel;have hsz:=hnx.size;by_cases hlt:k<ql.length
      ·obtain ⟨p,hp⟩:∃ p,ql[k]? = some p:=⟨ql[k],List.getElem?_eq_getElem hlt⟩
       have hown:=HOL8.out.below hnx (by omega)
       obtain⟨b,off,cp,hve,hbb,c0,c1,c2',c3',c4',c5,_⟩:=hown.at.cells k p hp;cases hve
       have hop:=hown.nears p (List.mem_of_getElem? hp);obtain⟨pa,pc,hpn⟩:=Zac hop.1;rw [hpn] at c5;have hone:=HLAW.out p.1 (List.mem_map_of_mem (List.mem_of_getElem? hp));obtain⟨r,hr⟩:∃ r,r=p.1:=⟨_,rfl⟩;rw [<-hr] at c0 c1 c2' c3' c4' c5 hone;have hki:(0:Int)<=(k:Int):=by omega
       have hkj:(k:Int)<(ql.length:Int):=by omega
       have BAL:Below wb.heap.size wb (wb.alloc (.cells #[.bool r.thing,.int .i64 r.«to»,.int .i64 r.kind,.int .i64 r.cost,.int .i64 r.far,.slice pa r.hops.length pc] 44)):=(Below.refl _ _).alloc (Nat.le_refl _) _;have hxl:=heap_alloc_new wb (.cells #[.bool r.thing,.int .i64 r.«to»,.int .i64 r.kind,.int .i64 r.cost,.int .i64 r.far,.slice pa r.hops.length pc] 44);have HBQ:=hide (hnx.trans (BAL.mono hnx.size));have hbw:b<wb.heap.size:=by omega
       have hkd:(r.kind==2)=false:=by have h:=hone.kind;simpa using h
       have HONE:=hide hone;have l2:=Zaa hxl 2;simp only [List.getElem?_toArray,List.getElem?_cons_succ,List.getElem?_cons_zero] at l2
       have HXL:=hide hxl;clear hp hpn hop hone hown hr hxl BAL hnx
       go_wp2
       obtain⟨wq,hwq⟩:∃ W,W=wb.alloc (.cells #[.bool r.thing,.int .i64 r.«to»,.int .i64 r.kind,.int .i64 r.cost,.int .i64 r.far,.slice pa r.hops.length pc] 44):=⟨_,rfl⟩;rw [<-hwq] at HXL HBQ l2 |-;clear hwq c0 c1 c2' c3' c4' c5 l2;have hq8:=HBQ.out.size;have hrq:=Zab HXL.out
       go_loopw [17] (fun i wr=>∃ j:Nat,j<=ts.length/\i=.int .i64 (j:Int)/\Below wq.heap.size wq wr) (fun i _=>ts.length-(intOf i).toNat)
       case atStart=>exact ⟨0,by omega,rfl,Below.refl _ _⟩
       case round=>
        rename World=>wd
        obtain⟨j,hj,rfl,hnd⟩:=hrel;have hsd:=hnd.size;have BW8:=hide (HBQ.out.trans (hnd.mono HBQ.out.size));have hyd:=(BW8.out.block _ (Zab HX8.out)).trans HX8.out;have hrd:=(hnd.block _ hrq).trans HXL.out;have y2:=Zaa hyd 2;have r0:=Zaa hrd 0;simp only [List.getElem?_toArray,List.getElem?_cons_succ,List.getElem?_cons_zero] at y2 r0
        have HRD:=hide hrd;clear hyd hrd;by_cases hlt2:j<ts.length
        ·have hji:(0:Int)<=(j:Int):=by omega
         have hjj:(j:Int)<(ts.length:Int):=by omega
         cases hth:r.thing
         ·rw [hth] at r0
          have N8:=hide BW8.out
          as_aux_lemma=>
           go_wp2
           go_roundw
           case rel=>exact ⟨k+1,by omega,by go_num,N8.out⟩
           case measure=>simp [intOf];omega
         ·rw [hth] at r0
          obtain⟨t,ht⟩:∃ t,ts[j]? = some t:=⟨ts[j],List.getElem?_eq_getElem hlt2⟩;obtain⟨g,goff,gcp,hge,hgb,e0,e1,e2,e3⟩:=Zbv.cells (HTR3.out wd (HB8.out.trans (BW8.out.mono HB8.out.size))) j t ht;cases hge
          obtain⟨hto1,htoN⟩:=HTH.out t (List.mem_of_getElem? ht);have htc:=HASC.out.2.2 t (List.mem_of_getElem? ht);obtain⟨m,hm⟩:∃ m:Nat,t.o=(m:Int)+1:=⟨(t.o-1).toNat,by omega⟩
          have hmz:m<zs.length:=by have:=HZL.out;omega
          obtain⟨ub,hub⟩:∃ ub,zs[m]? = some ub:=⟨zs[m],List.getElem?_eq_getElem hmz⟩;have hmN:(t.o-1).toNat=m:=by omega
          have HTHG:=hide (fun (h9:ub=true)=>HTX.out j t ht (by rw [hmN];unfold upB;rw [hub,h9];rfl))
          have HQ:=hide (fun (h1:ZbV t∈xs)=>HONE.out.thing t h1 htc hth)
          have hcst:=ZfN xs (v:Int) t.o;have HUP:=hide (fun W (hb:Below wd.heap.size wd W)=>Zb1.cell (HZR3.out W ((HB8.out.trans (BW8.out.mono HB8.out.size)).trans (hb.mono (Nat.le_trans HB8.out.size BW8.out.size)))) m ub hub)
          have HCW:=hide (fun W (hb:Below wd.heap.size wd W)=>HWT.out t.o W (BW8.out.trans (hb.mono BW8.out.size)))
          obtain⟨D1,hD1⟩:∃ D,D=ZaY (Zbm xs 0 (v:Int)) t.o:=⟨_,rfl⟩;obtain⟨F1,hF1⟩:∃ F,F=Za3 (Zbm xs 0 (v:Int)) t.o:=⟨_,rfl⟩;rw [<-hD1, <-hF1] at HCW HQ;rw [<-hD1] at hcst;unfold wayC at HCW;clear hD1 hF1 ht hub hmN;obtain⟨t1,t2,t3,t4⟩:=t;simp only [] at e0 e1 e2 e3 hto1 htoN htc hm HTHG HQ hcst HCW
          subst hm;have BT:Below wd.heap.size wd (wd.alloc (.cells #[.int .i64 ((m:Int)+1),.int .i64 t2,.int .i64 t3,.bool t4] 46)):=(Below.refl _ _).alloc (Nat.le_refl _) _;have hxt:=heap_alloc_new wd (.cells #[.int .i64 ((m:Int)+1),.int .i64 t2,.int .i64 t3,.bool t4] 46);have x0:=Zaa hxt 0;simp only [List.getElem?_toArray,List.getElem?_cons_succ,List.getElem?_cons_zero] at x0
          have HXT:=hide hxt;have hgw:g<wd.heap.size:=by omega
          clear hxt
          go_wp2_with fail
          refine (HCW.out _ BT).mono ?_
          rintro e wf ⟨du,rfl,hdu,bf⟩;obtain⟨da,dc,rfl⟩:=Zac hdu;have hbf:=bf.size;have hst:=Zab HXT.out;have BF:Below wd.heap.size wd wf:=BT.trans (bf.mono BT.size);have BG:Below wd.heap.size wd (wf.alloc (.cells #[.int .i64 D1.«to»,.int .i64 D1.cost,.slice da D1.hops.length dc] 48)):=BF.trans (((Below.refl wf.heap.size wf).alloc (Nat.le_refl _) _).mono BF.size);have hxt:(wf.alloc (.cells #[.int .i64 D1.«to»,.int .i64 D1.cost,.slice da D1.hops.length dc] 48)).heap[wd.heap.size]? = some (.cells #[.int .i64 ((m:Int)+1),.int .i64 t2,.int .i64 t3,.bool t4] 46):=(Below.heap_alloc _ _ _ (by omega)).trans ((bf.block _ hst).trans HXT.out)
          have hxr:=(BG.block _ (Zab HRD.out)).trans HRD.out;have hxw:=heap_alloc_new wf (.cells #[.int .i64 D1.«to»,.int .i64 D1.cost,.slice da D1.hops.length dc] 48);obtain⟨gz,zoff,zcp,hze,hzb,z0⟩:=HUP.out _ BG;cases hze
          have x1:=Zaa hxt 0;have x2:=Zaa hxt 1;have x3:=Zaa hxt 2;have x4:=Zaa hxt 3;have r1:=Zaa hxr 1;have r2:=Zaa hxr 2;have r3:=Zaa hxr 3;have r4:=Zaa hxr 4;have w1c:=Zaa hxw 1;simp only [List.getElem?_toArray,List.getElem?_cons_succ,List.getElem?_cons_zero] at x1 x2 x3 x4 r1 r2 r3 r4 w1c
          have N9:=hide (hnd.trans (BG.mono hnd.size));have hm0:(0:Int)<=(m:Int):=by omega
          have hmz':(m:Int)<(zs.length:Int):=by omega
          have hm6:IntKind.i64.wrap (m:Int)=(m:Int):=by simp [IntKind.wrap,IntKind.bits,IntKind.signed];omega
          have hm7:IntKind.i64.wrap ((m:Int)+1-1)=(m:Int):=by rw [show (m:Int)+1-1=(m:Int) by omega];exact hm6
          have hsum:IntKind.i64.wrap (D1.cost+t3)=D1.cost+t3:=ZaO _ (by omega) (by omega)
          have hzb':gz<(wf.alloc (.cells #[.int .i64 D1.«to»,.int .i64 D1.cost,.slice da D1.hops.length dc] 48)).heap.size:=hzb;clear hdu bf hxt hxr hxw BF BG BT x0 r0 y2 e0 e1 e2 e3 HCW HXT HUP HRD hnd hcst;clear hmz hlt2 hj hsd hst hbf hgw hgb hzb;by_cases hov:(m:Int)+1=(v:Int)
          ·have hovd:(((m:Int)+1)==(v:Int))=true:=by simpa using hov
           have HOV:=hide hov;clear hov;by_cases hkr:t2=r.«to»
           ·have hkn:(t2 != r.«to»)=false:=by simpa using hkr
            cases ub
            ·clear HTHG HQ hkr
             as_aux_lemma=>
              go_wp2
              go_roundw
              case rel=>exact ⟨j+1,by omega,by go_num,N9.out⟩
              case measure=>simp [intOf];omega
            ·have HOR:=hide (show F1=true\/(m:Int)+1=(v:Int) from .inr HOV.out)
             have hq:=HQ.out (HTHG.out rfl) hkr HOR.out;have HQ2:=hide hq;clear hq HTHG HQ hkr HOR;cases t4
             ·have hk3:(r.kind != 3)=false:=by have h:=(HQ2.out.1 rfl).1;simp [h]
              have hle:=(HQ2.out.1 rfl).2;have hg1:¬(r.cost>D1.cost+t3):=by omega
              have hg2:decide (D1.cost+t3<r.cost)=false:=decide_eq_false hg1;clear hle HQ2
              as_aux_lemma=>
               go_wp2
               go_roundw
               case rel=>exact ⟨j+1,by omega,by go_num,N9.out⟩
               case measure=>simp [intOf];omega
             ·by_cases hk4:r.kind=4
              ·have hkd4:(r.kind==4)=true:=by simpa using hk4
               have hle:=HQ2.out.2 rfl hk4;have hg1:¬(r.far>t3):=by omega
               have hg2:decide (t3<r.far)=false:=decide_eq_false hg1;clear hle hk4 HQ2
               as_aux_lemma=>
                go_wp2
                go_roundw
                case rel=>exact ⟨j+1,by omega,by go_num,N9.out⟩
                case measure=>simp [intOf];omega
              ·have hkd4:(r.kind==4)=false:=by simpa using hk4
               clear hk4 HQ2
               as_aux_lemma=>
                go_wp2
                go_roundw
                case rel=>exact ⟨j+1,by omega,by go_num,N9.out⟩
                case measure=>simp [intOf];omega
           ·have hkn:(t2 != r.«to»)=true:=by simpa using hkr
            clear HTHG HQ hkr
            as_aux_lemma=>
             go_wp2
             go_roundw
             case rel=>exact ⟨j+1,by omega,by go_num,N9.out⟩
             case measure=>simp [intOf];omega
          ·have hovd:(((m:Int)+1)==(v:Int))=false:=by simpa using hov
           clear hov;cases F1
           ·by_cases hkr:t2=r.«to»
            ·have hkn:(t2 != r.«to»)=false:=by simpa using hkr
             clear HTHG HQ hkr
             as_aux_lemma=>
              go_wp2
              go_roundw
              case rel=>exact ⟨j+1,by omega,by go_num,N9.out⟩
              case measure=>simp [intOf];omega
            ·have hkn:(t2 != r.«to»)=true:=by simpa using hkr
             clear HTHG HQ hkr
             as_aux_lemma=>
              go_wp2
              go_roundw
              case rel=>exact ⟨j+1,by omega,by go_num,N9.out⟩
              case measure=>simp [intOf];omega
           ·skip
            by_cases hkr:t2=r.«to»
            ·have hkn:(t2 != r.«to»)=false:=by simpa using hkr
             cases ub
             ·clear HTHG HQ hkr
              as_aux_lemma=>
               go_wp2
               go_roundw
               case rel=>exact ⟨j+1,by omega,by go_num,N9.out⟩
               case measure=>simp [intOf];omega
             ·have HOR:=hide (show true=true\/(m:Int)+1=(v:Int) from .inl rfl)
              have hq:=HQ.out (HTHG.out rfl) hkr HOR.out;have HQ2:=hide hq;clear hq HTHG HQ hkr HOR;cases t4
              ·have hk3:(r.kind != 3)=false:=by have h:=(HQ2.out.1 rfl).1;simp [h]
               have hle:=(HQ2.out.1 rfl).2;have hg1:¬(r.cost>D1.cost+t3):=by omega
               have hg2:decide (D1.cost+t3<r.cost)=false:=decide_eq_false hg1;clear hle HQ2
               as_aux_lemma=>
                go_wp2
                go_roundw
                case rel=>exact ⟨j+1,by omega,by go_num,N9.out⟩
                case measure=>simp [intOf];omega
              ·by_cases hk4:r.kind=4
               ·have hkd4:(r.kind==4)=true:=by simpa using hk4
                have hle:=HQ2.out.2 rfl hk4;have hg1:¬(r.far>t3):=by omega
                have hg2:decide (t3<r.far)=false:=decide_eq_false hg1;clear hle hk4 HQ2
                as_aux_lemma=>
                 go_wp2
                 go_roundw
                 case rel=>exact ⟨j+1,by omega,by go_num,N9.out⟩
                 case measure=>simp [intOf];omega
               ·have hkd4:(r.kind==4)=false:=by simpa using hk4
                clear hk4 HQ2
                as_aux_lemma=>
                 go_wp2
                 go_roundw
                 case rel=>exact ⟨j+1,by omega,by go_num,N9.out⟩
                 case measure=>simp [intOf];omega
            ·have hkn:(t2 != r.«to»)=true:=by simpa using hkr
             clear HTHG HQ hkr
             as_aux_lemma=>
              go_wp2
              go_roundw
              case rel=>exact ⟨j+1,by omega,by go_num,N9.out⟩
              case measure=>simp [intOf];omega
        ·have hjj:¬(j:Int)<(ts.length:Int):=by omega
         have N8:=hide BW8.out;clear hnd
         go_wp2
         go_roundw
         case rel=>exact ⟨k+1,by omega,by go_num,N8.out⟩
         case measure=>simp [intOf];omega
      ·have hkj:¬(k:Int)<(ql.length:Int):=by omega
       have N:=hide (HB8.out.trans (hnx.mono HB8.out.size));clear hnx
       go_wp2
       go_roundw
       case rel=>exact ⟨v+1,by omega,by omega,by go_num,N.out⟩
       case measure=>simp [intOf];omega
    ·have hlv':¬(v:Int)<=(N:Int):=by omega
     obtain⟨al,HAL⟩:∃ al,Hid (al=ZaC L 1):=⟨_,hide rfl⟩;have hal3:al.length<=3:=by rw [HAL.out];exact ZcJ L _
     have HBA:=hide (show Below w3.heap.size w3 wa.drew from ba.drew)
     clear ba
     go_wp2
     refine wp_region_noPanic ?_
     refine Zaj (S:=(fun W=>W.heap[z]? = some (.cells #[.int .i64 (N:Int),.slice ua L.length uc,.slice a2 ts.length c2] 27))) (by kernel_rfl) 19 rfl HXA.out (fun ops hops HSW=>?_)
     refine ZaA 0 (oi:=?_) (v:=?_) ?_ (by rw [hops.out];kernel_rfl) ?_ ?_ ?_ HSW ?_
     rotate_left 2
     ·rw [hops.out];simp only [getS];rfl
     ·rw [hops.out];kernel_rfl
     ·intro W hW;(try dsimp only at hW);go_simp <;> with_reducible rfl
     ·exact fun _ _ _=>id
     try simp only [putS]
     refine Zak 1 (oi:=?_) ?_ (by rw [hops.out];kernel_rfl) ?_ ?_
     rotate_left 1
     ·rw [hops.out];simp only [getS];rfl
     ·rw [hops.out];kernel_rfl
     intro K hK
     go_simp
     have HS1:=(Below.heap_alloc wa.drew (.cells #[] 3) _ (Zab HSW)).trans HSW;have B1:Below w3.heap.size w3 (wa.drew.alloc (.cells #[] 3)):=HBA.out.alloc HBA.out.size _;have HU1:ZaP (wa.drew.alloc (.cells #[] 3)) (.slice (some ⟨wa.heap.size,0,none⟩) 0 0) [] (wa.drew.alloc (.cells #[] 3)).heap.size:=ZaW (l:=[]) (World.ownsRow_lit wa.drew (base:=wa.heap.size) (e:=3) (size:=1) #[] 0 (Nat.le_refl _) (by unfold maxLen;omega) (by simp))
     have hw31:=B1.size;refine hK.out _ _ HS1 (fun _=>?_)
     clear hK
     try simp only [putS]
     refine Zak 2 (oi:=?_) ?_ (by rw [hops.out];kernel_rfl) ?_ ?_
     rotate_left 1
     ·rw [hops.out];simp only [getS];rfl
     ·rw [hops.out];kernel_rfl
     intro K hK
     go_simp
     refine (HWI.out _ [] (wa.drew.alloc (.cells #[] 3)).heap.size 1 _ B1 HU1 hw31 (Nat.le_refl _) (by simp)).mono ?_
     rintro e wb ⟨vw,ww,rfl,hbw,how,bb⟩;have hww:ww=[]:=by have h9:=Zjo hbw;simpa [Zag] using h9
     subst hww;obtain⟨wwa,wwc,rfl⟩:=Zac how.row;have HS2:=(bb.block _ (Zab HS1)).trans HS1;have B2:=B1.trans (bb.mono hw31);refine hK.out _ _ HS2 (fun _=>?_)
     clear hK hbw how
     try simp only [putS]
     refine ZaA 3 (oi:=?_) (v:=?_) ?_ (by rw [hops.out];kernel_rfl) ?_ ?_ ?_ HS2 ?_
     rotate_left 2
     ·rw [hops.out];simp only [getS];rfl
     ·rw [hops.out];kernel_rfl
     ·intro W hW;(try dsimp only at hW);go_simp <;> with_reducible rfl
     ·exact fun _ _ _=>id
     try simp only [putS]
     refine ZaA 4 (oi:=?_) (v:=?_) ?_ (by rw [hops.out];kernel_rfl) ?_ ?_ ?_ HS2 ?_
     rotate_left 2
     ·rw [hops.out];simp only [getS];rfl
     ·rw [hops.out];kernel_rfl
     ·intro W hW;(try dsimp only at hW);go_simp <;> with_reducible rfl
     ·exact fun _ _ _=>id
     try simp only [putS]
     refine ZaA 5 (oi:=?_) (v:=?_) ?_ (by rw [hops.out];kernel_rfl) ?_ ?_ ?_ HS2 ?_
     rotate_left 2
     ·rw [hops.out];simp only [getS];rfl
     ·rw [hops.out];kernel_rfl
     ·intro W hW;(try dsimp only at hW);go_simp <;> with_reducible rfl
     ·exact fun _ _ _=>id
     try simp only [putS]
     refine ZaA 6 (oi:=?_) (v:=?_) ?_ (by rw [hops.out];kernel_rfl) ?_ ?_ ?_ HS2 ?_
     rotate_left 2
     ·rw [hops.out];simp only [getS];rfl
     ·rw [hops.out];kernel_rfl
     ·intro W hW;(try dsimp only at hW);go_simp <;> with_reducible rfl
     ·exact fun _ _ _=>id
     try simp only [putS]
     refine ZaA 11 (oi:=?_) (v:=?_) ?_ (by rw [hops.out];kernel_rfl) ?_ ?_ ?_ HS2 ?_
     rotate_left 2
     ·rw [hops.out];simp only [getS];rfl
     ·rw [hops.out];kernel_rfl
     ·intro W hW;(try dsimp only at hW);go_simp <;> with_reducible rfl
     ·exact fun _ _ _=>id
     try simp only [putS]
     refine ZaA 7 (oi:=?_) (v:=?_) ?_ (by rw [hops.out];kernel_rfl) ?_ ?_ ?_ HS2 ?_
     rotate_left 2
     ·rw [hops.out];simp only [getS];rfl
     ·rw [hops.out];kernel_rfl
     ·intro W hW;refine Zep 27 (.tmp 6) ?_ z ?_ 27 _ (0,0) _ hW Tryz.underlying27 rfl (by kernel_rfl) <;> rfl
     ·exact fun _ _ _=>id
     try simp only [putS]
     refine ZaA 12 (oi:=?_) (v:=?_) ?_ (by rw [hops.out];kernel_rfl) ?_ ?_ ?_ HS2 ?_
     rotate_left 2
     ·rw [hops.out];simp only [getS];rfl
     ·rw [hops.out];kernel_rfl
     ·intro W hW;refine Zep 27 (.tmp 6) ?_ z ?_ 27 _ (0,0) _ hW Tryz.underlying27 rfl (by kernel_rfl) <;> rfl
     ·exact fun _ _ _=>id
     try simp only [putS]
     refine Zak 8 (oi:=?_) ?_ (by rw [hops.out];kernel_rfl) ?_ ?_
     rotate_left 1
     ·rw [hops.out];simp only [getS];rfl
     ·rw [hops.out];kernel_rfl
     intro K hK
     go_simp
     refine (HAR.out 1 wb B2).mono ?_
     rintro e wc ⟨u8,rfl,hu8,b8⟩;rw [<-HAL.out] at hu8;obtain⟨ua8,uc8,rfl⟩:=Zac hu8;rw [<-Zcq] at hu8;have HS8:=(b8.block _ (Zab HS2)).trans HS2;have B8:=B2.trans (b8.mono B2.size);have HU8:=ZaW hu8;refine hK.out _ _ HS8 (fun _=>?_)
     clear hK
     try simp only [putS]
     refine Zak 9 (oi:=?_) ?_ (by rw [hops.out];kernel_rfl) ?_ ?_
     rotate_left 1
     ·rw [hops.out];simp only [getS];rfl
     ·rw [hops.out];kernel_rfl
     intro K hK
     go_simp
     refine (HRI.out _ al wc.heap.size false 1 wc B8 HU8 B8.size (Nat.le_refl _) (by omega)).mono ?_
     rintro e wd ⟨vl,ql,rfl,hir,hol,b9⟩;obtain⟨qla,qlc,rfl⟩:=Zac hol.row;have HS9:=(b9.block _ (Zab HS8)).trans HS8;have B9:=B8.trans (b9.mono B8.size);have HIR:=hide hir;refine hK.out _ _ HS9 (fun _=>?_)
     clear hK hol hir
     try simp only [putS]
     refine ZaA 10 (oi:=?_) (v:=?_) ?_ (by rw [hops.out];kernel_rfl) ?_ ?_ ?_ HS9 ?_
     rotate_left 2
     ·rw [hops.out];simp only [getS];rfl
     ·rw [hops.out];kernel_rfl
     ·intro W hW;(try dsimp only at hW);go_simp <;> with_reducible rfl
     ·exact fun _ _ _=>id
     try simp only [putS]
     refine Zak 13 (oi:=?_) ?_ (by rw [hops.out];kernel_rfl) ?_ ?_
     rotate_left 1
     ·rw [hops.out];simp only [getS];rfl
     ·rw [hops.out];kernel_rfl
     intro K hK
     go_simp
     refine (HAR.out 1 wd B9).mono ?_
     rintro e we ⟨u13,rfl,hu13,b13⟩;rw [<-HAL.out] at hu13;obtain⟨ua13,uc13,rfl⟩:=Zac hu13;rw [<-Zcq] at hu13;have HS13:=(b13.block _ (Zab HS9)).trans HS9;have B13:=B9.trans (b13.mono B9.size);have HU13:=ZaW hu13;refine hK.out _ _ HS13 (fun _=>?_)
     clear hK
     try simp only [putS]
     refine Zak 14 (oi:=?_) ?_ (by rw [hops.out];kernel_rfl) ?_ ?_
     rotate_left 1
     ·rw [hops.out];simp only [getS];rfl
     ·rw [hops.out];kernel_rfl
     intro K hK
     go_simp
     refine (HRS.out _ al we.heap.size false 1 we B13 HU13 B13.size (Nat.le_refl _) (by omega)).mono ?_
     rintro e wf ⟨vm,qm,rfl,hir2,hom,b14⟩;obtain⟨qma,qmc,rfl⟩:=Zac hom.row;have HS14:=(b14.block _ (Zab HS13)).trans HS13;have B14:=B13.trans (b14.mono B13.size);have hlq:qm.length=ql.length:=by have h9:=congrArg List.length (HIR.out.unique hir2);simpa [ZaU] using h9.symm
     rw [hlq];refine hK.out _ _ HS14 (fun _=>?_)
     clear hK hom hir2 hlq
     try simp only [putS]
     refine ZaA 15 (oi:=?_) (v:=?_) ?_ (by rw [hops.out];kernel_rfl) ?_ ?_ ?_ HS14 ?_
     rotate_left 2
     ·rw [hops.out];simp only [getS];rfl
     ·rw [hops.out];kernel_rfl
     ·intro W hW;(try dsimp only at hW);go_simp <;> with_reducible rfl
     ·exact fun _ _ _=>id
     try simp only [putS]
     refine ZaA 16 (oi:=?_) (v:=?_) ?_ (by rw [hops.out];kernel_rfl) ?_ ?_ ?_ HS14 ?_
     rotate_left 2
     ·rw [hops.out];simp only [getS];rfl
     ·rw [hops.out];kernel_rfl
     ·intro W hW;(try dsimp only at hW);go_simp <;> with_reducible rfl
     ·exact fun _ _ _=>id
     try simp only [putS]
     refine ZaA 17 (oi:=?_) (v:=?_) ?_ (by rw [hops.out];kernel_rfl) ?_ ?_ ?_ HS14 ?_
     rotate_left 2
     ·rw [hops.out];simp only [getS];rfl
     ·rw [hops.out];kernel_rfl
     ·intro W hW;(try dsimp only at hW);go_simp <;> with_reducible rfl
     ·exact fun _ _ _=>id
     try simp only [putS]
     refine ZaA 18 (oi:=?_) (v:=?_) ?_ (by rw [hops.out];kernel_rfl) ?_ ?_ ?_ HS14 ?_
     rotate_left 2
     ·rw [hops.out];simp only [getS];rfl
     ·rw [hops.out];kernel_rfl
     ·intro W hW;(try dsimp only at hW);go_simp <;> with_reducible rfl
     ·exact fun _ _ _=>id
     try simp only [putS]
     refine wpAnyH_done (by rw [hops.out];kernel_rfl) (NoPanic.normal ?_) _
     clear hops ops;have N:=hide (HB3.out.trans (B14.mono HB3.out.size));clear B14 b14
     go_wp2
     go_ret
     exact⟨by simp,N.out⟩
end Go.Proofs.YtgdgkgmjpnbbcaaGreat
