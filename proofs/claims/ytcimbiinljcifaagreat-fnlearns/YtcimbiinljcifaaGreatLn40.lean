/-
  HeardS
-/
import Derived.Test.YtcimbiinljcifaaGreatLn6
import Derived.Test.YtcimbiinljcifaaGreatLn1
import Derived.Test.YtcimbiinljcifaaGreatLn8
import Derived.Deep.RegionHeld3
namespace Go.Proofs.YtcimbiinljcifaaGreat
open Go.RowKit
set_option linter.unusedSimpArgs false
set_option linter.unusedVariables false
set_option maxRecDepth 100000
set_option maxHeartbeats 8000000
def ZcZ (ls:List Lk)(id:Int)(h:List Int):Bool:=decide (h.length%2=0)&&(decide (h.length<=60)&&((ZaJ h).all (hitP ls id)&&ascB ordH (ZaJ h)))
theorem Zje {x:NetD}{id:Int}{h:List Int}(hn:ZaV x=true):ZcZ x.ls id h=Zck x.ls id h:=by
 cases e:Zck x.ls id h with
 | true=>
  have hl:=Zh4 hn e;unfold Zck at e;unfold ZcZ;simp only [Bool.and_eq_true] at e
  rw [e.1,e.2.1,e.2.2,decide_eq_true hl]
  rfl
 | false=>
  unfold Zck at e;unfold ZcZ;cases h1:decide (h.length%2=0) <;> cases h2:(ZaJ h).all (hitP x.ls id) <;> cases h3:ascB ordH (ZaJ h) <;> simp_all
theorem Zl8 {L:List (Int × Int)}(h:∀ j,j<L.length->ZbA ordH L j=true):ascB ordH L=true:=ZaG h
theorem ZjC (v1 v2 v3 v4:Value)(x:SelfD)(ps:List RP)(w:World)(hl:x.net.ls.length<=1048576)(hh:x.heard.length<=1048576)(hv:SelfIn w v1 v2 v3 v4 x ps w.heap.size):
  Calls Tryz.prog 71 #[ZdL x v1 v2 v3 v4] w fun e w'=>e=.returned (.bool (ZcZ x.net.ls x.id x.heard))/\Below w.heap.size w w':=by
 obtain⟨a1,c1,rfl⟩:=hv.links.shape;obtain⟨a2,c2,rfl⟩:=hv.things.shape;obtain⟨a3,c3,rfl⟩:=hv.heard.shape;obtain⟨a4,c4,rfl⟩:=hv.store.shape;have HX:=hide hv;have HPL:=hide (Zdj x.heard);clear hv;obtain⟨H,hH⟩:∃ H,H=ZcZ x.net.ls x.id x.heard:=⟨_,rfl⟩;rw [<-hH];have HH:=hide hH;clear hH;have BA:Below w.heap.size w (w.alloc (.cells #[.int .i64 x.id,.int .i64 x.boot,.int .i64 x.net.n,.slice a1 x.net.ls.length c1,.slice a2 x.net.ts.length c2,.slice a3 x.heard.length c3,.slice a4 ps.length c4] 31)):=(Below.refl _ _).alloc (Nat.le_refl _) _;have g0:=heap_alloc_new w (.cells #[.int .i64 x.id,.int .i64 x.boot,.int .i64 x.net.n,.slice a1 x.net.ls.length c1,.slice a2 x.net.ts.length c2,.slice a3 x.heard.length c3,.slice a4 ps.length c4] 31);have G0:=hide g0;clear g0;by_cases hodd:x.heard.length%2=0
 case neg=>
  have hp1:(x.heard.length:Int)%2=1:=by omega
  have HF:=hide (show H=false by rw [HH.out];unfold ZcZ;rw [decide_eq_false hodd];rfl)
  clear hodd
  go_enter Tryz.func71,Tryz.ntmps71
  go_wp2
  go_ret
  exact⟨Zaf HF.out,BA⟩
 have hp1:¬(x.heard.length:Int)%2=1:=by omega
 by_cases h60:x.heard.length<=60
 case neg=>
  have hp2:¬(x.heard.length:Int)<=60:=by omega
  have HF:=hide (show H=false by rw [HH.out];unfold ZcZ;rw [decide_eq_false h60];simp)
  clear hodd h60
  go_enter Tryz.func71,Tryz.ntmps71
  go_wp2
  go_ret
  exact⟨Zaf HF.out,BA⟩
 have hp2:(x.heard.length:Int)<=60:=by omega
 obtain⟨L,hL⟩:∃ L,L=ZaJ x.heard:=⟨_,rfl⟩;have HH2:=hide (show H=(L.all (hitP x.net.ls x.id)&&ascB ordH L) by rw [HH.out];unfold ZcZ;rw [decide_eq_true hodd,decide_eq_true h60, <-hL];rfl)
 have HLL:=hide (show 2*L.length=x.heard.length by rw [hL,HPL.out];omega)
 have HL:=hide hL;clear hL hodd h60;have hp3:((x.heard.length:Int)%2==1)=false:=by simpa using hp1
 have hp4:decide ((60:Int)<(x.heard.length:Int))=false:=decide_eq_false (by omega)
 go_enter Tryz.func71,Tryz.ntmps71
 go_wp2
 obtain⟨w1,hw1⟩:∃ W,W=w.alloc (.cells #[.int .i64 x.id,.int .i64 x.boot,.int .i64 x.net.n,.slice a1 x.net.ls.length c1,.slice a2 x.net.ts.length c2,.slice a3 x.heard.length c3,.slice a4 ps.length c4] 31):=⟨_,rfl⟩;rw [<-hw1] at BA G0
 first
  | rw [<-hw1]
  | skip
 clear hw1
 go_loopw [3] (fun i wr=>∃ k:Nat,k<=L.length/\i=.int .i64 (2*(k:Int))/\Hid (∀ j,j<k->okAt (hitP x.net.ls x.id) L j=true/\ZbA ordH L j=true)/\Below w1.heap.size w1 wr) (fun i _=>70-(intOf i).toNat)
 case atStart=>exact ⟨0,by omega,rfl,hide (by omega),Below.refl _ _⟩
 case round=>
  obtain⟨k,hk,rfl,HNO,hb⟩:=hrel;have gr:=(hb.block _ (Zab G0.out)).trans G0.out;have B2:Below w.heap.size w wr:=BA.trans (hb.mono BA.size);have t0:=Zaa gr 0;have t2:=Zaa gr 2;have t3:=Zaa gr 3;have t4:=Zaa gr 4;have t5:=Zaa gr 5;simp at t0 t2 t3 t4 t5
  have hgl:=Zab gr;have GR:=hide gr;clear gr;by_cases hlt:k<L.length
  ·have hll:=HLL.out
   have hj0:2*(k:Int)<(x.heard.length:Int):=by omega
   have hj1:2*(k:Int)+1<(x.heard.length:Int):=by omega
   obtain⟨y,hy⟩:∃ y,x.heard[2*k]? = some y:=⟨x.heard[2*k]'(by omega),List.getElem?_eq_getElem (by omega)⟩
   obtain⟨z,hz⟩:∃ z,x.heard[2*k+1]? = some z:=⟨x.heard[2*k+1]'(by omega),List.getElem?_eq_getElem (by omega)⟩
   have hLk:L[k]? = some (y,z):=by rw [HL.out];exact ZeS _ _ _ _ hy hz
   obtain⟨b,off,cap',hve,hbb,d0⟩:=HX.out.heard.cell (2*k) y hy;cases hve
   obtain⟨b',off',cap2,hve2,hbb2,d1⟩:=HX.out.heard.cell (2*k+1) z hz;cases hve2
   rw [<-B2.cell (p:=⟨b,off+2*k,none⟩) hbb] at d0;rw [<-B2.cell (p:=⟨b,off+(2*k+1),none⟩) hbb] at d1;have q0:(0:Int)<=2*(k:Int):=by omega
   have q1:(0:Int)<=2*(k:Int)+1:=by omega
   have q4:(2*(k:Int)).toNat=2*k:=by omega
   have q5:(2*(k:Int)+1).toNat=2*k+1:=by omega
   have q6:IntKind.i64.wrap (2*(k:Int)+1)=2*(k:Int)+1:=ZaD _ (by omega) (by omega)
   have HC:=hide (Zfu (.int .i64 x.net.n) (.slice a1 x.net.ls.length c1) (.slice a2 x.net.ts.length c2) x.net.ls x.id y z wr hl (ZaT.then HX.out.links B2));obtain⟨C,hC⟩:∃ C,C=Zci x.net.ls x.id y z:=⟨_,rfl⟩;rw [<-hC] at HC;have HOK:=hide (show okAt (hitP x.net.ls x.id) L k = !(C==0) by rw [Zbh hLk,hC];rfl)
   have HLK:=hide hLk;clear hC hy hz hll hLk
   go_wp2_with fail
   refine HC.out.mono ?_
   rintro e w3 ⟨rfl,b3⟩;have hbs:=hb.size;have B3:Below w1.heap.size w1 w3:=hb.trans (b3.mono hbs);have B4:Below w.heap.size w w3:=BA.trans (B3.mono BA.size);have g3:=(b3.block _ hgl).trans GR.out;clear HC t0 t2 t3 t4 t5 d0 d1;have t5:=Zaa g3 5;simp at t5
   clear g3;by_cases hc0:C=0
   ·have HF:=hide (show H=false by
     rw [HH2.out];have:L.all (hitP x.net.ls x.id)=false:=by
      rw [List.all_eq_false];refine⟨L[k],List.getElem_mem hlt,?_⟩
      have h:=HOK.out;rw [Zbh (List.getElem?_eq_getElem hlt),hc0] at h;rw [h];simp
     rw [this,Bool.false_and])
    subst hc0
    go_wp2
    go_ret
    exact⟨Zaf HF.out,B4⟩
   ·have HT:=hide (show okAt (hitP x.net.ls x.id) L k=true by rw [HOK.out];simpa using hc0)
    rcases (show k=0\/∃ m,k=m+1 by cases k with
     | zero=>exact .inl rfl
     | succ m=>exact .inr ⟨m,rfl⟩) with hk0 | ⟨m,hm⟩
    ·have HA0:=hide (show ∀ j,j<k+1->okAt (hitP x.net.ls x.id) L j=true/\ZbA ordH L j=true from fun j hj=>by
      obtain rfl:j=0:=by omega
      refine⟨?_,rfl⟩
      have h:=HT.out;rw [hk0] at h;exact h)
     have hnk:¬(0:Int)<2*(k:Int):=by omega
     clear hk0
     go_wp2
     go_roundw
     case rel=>exact ⟨k+1,by omega,by go_num,HA0,B3⟩
     case measure=>simp [intOf];omega
    ·have hll:=HLL.out
     obtain⟨p,hp⟩:∃ p,x.heard[2*m]? = some p:=⟨x.heard[2*m]'(by omega),List.getElem?_eq_getElem (by omega)⟩
     obtain⟨q,hq⟩:∃ q,x.heard[2*m+1]? = some q:=⟨x.heard[2*m+1]'(by omega),List.getElem?_eq_getElem (by omega)⟩
     have hLm:L[m]? = some (p,q):=by rw [HL.out];exact ZeS _ _ _ _ hp hq
     obtain⟨b',off',cap2,hve2,hbb2,e0⟩:=HX.out.heard.cell (2*m) p hp;cases hve2
     obtain⟨b',off',cap2,hve2,hbb2,e1⟩:=HX.out.heard.cell (2*m+1) q hq;cases hve2
     rw [<-B4.cell (p:=⟨b,off+2*m,none⟩) hbb] at e0;rw [<-B4.cell (p:=⟨b,off+(2*m+1),none⟩) hbb] at e1;have HAT:=hide (show ZbA ordH L k=decide (ordH (p,q) (y,z)<0) by rw [hm];exact Za6 hLm (by rw [<-hm];exact HLK.out))
     have r1:2*(k:Int)-2=2*(m:Int):=by omega
     have r2:2*(k:Int)-1=2*(m:Int)+1:=by omega
     have r3:IntKind.i64.wrap (2*(m:Int))=2*(m:Int):=ZaD _ (by omega) (by omega)
     have r4:IntKind.i64.wrap (2*(m:Int)+1)=2*(m:Int)+1:=ZaD _ (by omega) (by omega)
     have r5:(2*(m:Int)).toNat=2*m:=by omega
     have r6:(2*(m:Int)+1).toNat=2*m+1:=by omega
     have r7:(0:Int)<=2*(m:Int):=by omega
     have r8:2*(m:Int)<(x.heard.length:Int):=by omega
     have r9:2*(m:Int)+1<(x.heard.length:Int):=by omega
     have r10:(0:Int)<=2*(m:Int)+1:=by omega
     have hnk:(0:Int)<2*(k:Int):=by omega
     have HM:=hide hm;clear hp hq hLm hll hm;have HBAD:=hide (show ¬ordH (p,q) (y,z)<0->H=false from fun h=>by
      rw [HH2.out];have:ascB ordH L=false:=ZaF hlt (by rw [HAT.out];exact decide_eq_false h)
      rw [this,Bool.and_false])
     have HGOOD:=hide (show ordH (p,q) (y,z)<0->∀ j,j<k+1->okAt (hitP x.net.ls x.id) L j=true/\ZbA ordH L j=true from fun h j hj=>by
      by_cases e:j=k
      ·subst e
       exact⟨HT.out,by rw [HAT.out];exact decide_eq_true h⟩
      ·exact HNO.out j (by omega))
     by_cases hpy:y<p
     ·have HF:=hide (HBAD.out (fun h=>by have:=(ZdF _ _).1 h;simp only [] at this;omega))
      clear HBAD HGOOD
      go_wp2
      go_ret
      exact⟨Zaf HF.out,B4⟩
     ·by_cases hpe:p=y
      ·by_cases hqz:z<=q
       ·have HF:=hide (HBAD.out (fun h=>by have:=(ZdF _ _).1 h;simp only [] at this;omega))
        clear HBAD HGOOD;subst hpe
        go_wp2
        go_ret
        exact⟨Zaf HF.out,B4⟩
       ·have HG:=hide (HGOOD.out ((ZdF _ _).2 (by simp only [];omega)))
        clear HBAD HGOOD;have z1:decide (y<p)=false:=decide_eq_false hpy;have z2:(p==y)=true:=by simpa using hpe
        have z3:decide (z<=q)=false:=decide_eq_false hqz;clear hpy hqz hpe
        go_wp2
        go_roundw
        case rel=>exact ⟨k+1,by omega,by go_num,HG,B3⟩
        case measure=>simp [intOf];omega
      ·have HG:=hide (HGOOD.out ((ZdF _ _).2 (by simp only [];omega)))
       clear HBAD HGOOD;have z1:decide (y<p)=false:=decide_eq_false hpy;have z2:(p==y)=false:=by simpa using hpe
       clear hpy hpe
       go_wp2
       go_roundw
       case rel=>exact ⟨k+1,by omega,by go_num,HG,B3⟩
       case measure=>simp [intOf];omega
  ·have hll:=HLL.out
   have hkj:¬2*(k:Int)<(x.heard.length:Int):=by omega
   have HF:=hide (show H=true by
    rw [HH2.out];have h1:L.all (hitP x.net.ls x.id)=true:=by
     rw [List.all_eq_true];intro q hq;obtain⟨i,hi,e⟩:=List.mem_iff_getElem.1 hq;have h:=(HNO.out i (by omega)).1
     rw [Zbh (List.getElem?_eq_getElem hi),e] at h;exact h
    rw [h1,Zl8 (fun j hj=>(HNO.out j (by omega)).2)]
    rfl)
   clear hll HNO
   go_wp2
   go_ret
   exact⟨Zaf HF.out,B2⟩
end Go.Proofs.YtcimbiinljcifaaGreat
