/-
  HeardS StoreS SelfOkS
-/
import Derived.Test.YtnndlmodjkplnaaGreatDoorFw6
import Derived.Test.YtnndlmodjkplnaaGreatDoorFw1
import Derived.Test.YtnndlmodjkplnaaGreatDoorFw4
import Derived.Deep.RegionHeld3
import Derived.Test.YtnndlmodjkplnaaGreatDoorFw9
import Derived.Test.YtnndlmodjkplnaaGreatDoorFw7
import Derived.Test.YtnndlmodjkplnaaGreatDoorFw11
import Derived.Test.YtnndlmodjkplnaaGreatDoorFw5
namespace Go.Proofs.YtnndlmodjkplnaaGreatDoor
open Go.RowKit
set_option linter.unusedSimpArgs false
set_option linter.unusedVariables false
set_option maxRecDepth 100000
set_option maxHeartbeats 8000000
def Zdr (ls:List Lk)(id:Int)(h:List Int):Bool:=decide (h.length%2=0)&&(decide (h.length<=60)&&((Za7 h).all (hitP ls id)&&ascB ordH (Za7 h)))
theorem ZlH {x:NetD}{id:Int}{h:List Int}(hn:Zbq x=true):Zdr x.ls id h=Zc8 x.ls id h:=by
 cases e:Zc8 x.ls id h with
 | true=>
  have hl:=Zj1 hn e;unfold Zc8 at e;unfold Zdr;simp only [Bool.and_eq_true] at e
  rw [e.1,e.2.1,e.2.2,decide_eq_true hl]
  rfl
 | false=>
  unfold Zc8 at e;unfold Zdr;cases h1:decide (h.length%2=0) <;> cases h2:(Za7 h).all (hitP x.ls id) <;> cases h3:ascB ordH (Za7 h) <;> simp_all
theorem Zpy {L:List (Int × Int)}(h:∀ j,j<L.length->ZbP ordH L j=true):ascB ordH L=true:=Zbl h
theorem Zmh (v1 v2 v3 v4:Value)(x:SelfD)(ps:List RP)(w:World)(hl:x.net.ls.length<=1048576)(hh:x.heard.length<=1048576)(hv:SelfIn w v1 v2 v3 v4 x ps w.heap.size):
  Calls Tryz.prog 44 #[Zfp x v1 v2 v3 v4] w fun e w'=>e=.returned (.bool (Zdr x.net.ls x.id x.heard))/\Below w.heap.size w w':=by
 obtain⟨a1,c1,rfl⟩:=hv.links.shape;obtain⟨a2,c2,rfl⟩:=hv.things.shape;obtain⟨a3,c3,rfl⟩:=hv.heard.shape;obtain⟨a4,c4,rfl⟩:=hv.store.shape;have HX:=hide hv;have HPL:=hide (ZdM x.heard);clear hv;obtain⟨H,hH⟩:∃ H,H=Zdr x.net.ls x.id x.heard:=⟨_,rfl⟩;rw [<-hH];have HH:=hide hH;clear hH;have BA:Below w.heap.size w (w.alloc (.cells #[.int .i64 x.id,.int .i64 x.boot,.int .i64 x.net.n,.slice a1 x.net.ls.length c1,.slice a2 x.net.ts.length c2,.slice a3 x.heard.length c3,.slice a4 ps.length c4] 41)):=(Below.refl _ _).alloc (Nat.le_refl _) _;have g0:=heap_alloc_new w (.cells #[.int .i64 x.id,.int .i64 x.boot,.int .i64 x.net.n,.slice a1 x.net.ls.length c1,.slice a2 x.net.ts.length c2,.slice a3 x.heard.length c3,.slice a4 ps.length c4] 41);have G0:=hide g0;clear g0;by_cases hodd:x.heard.length%2=0
 case neg=>
  have hp1:(x.heard.length:Int)%2=1:=by omega
  have HF:=hide (show H=false by rw [HH.out];unfold Zdr;rw [decide_eq_false hodd];rfl)
  clear hodd
  go_enter Tryz.func44,Tryz.ntmps44
  go_wp2
  go_ret
  exact⟨Zag HF.out,BA⟩
 have hp1:¬(x.heard.length:Int)%2=1:=by omega
 by_cases h60:x.heard.length<=60
 case neg=>
  have hp2:¬(x.heard.length:Int)<=60:=by omega
  have HF:=hide (show H=false by rw [HH.out];unfold Zdr;rw [decide_eq_false h60];simp)
  clear hodd h60
  go_enter Tryz.func44,Tryz.ntmps44
  go_wp2
  go_ret
  exact⟨Zag HF.out,BA⟩
 have hp2:(x.heard.length:Int)<=60:=by omega
 obtain⟨L,hL⟩:∃ L,L=Za7 x.heard:=⟨_,rfl⟩;have HH2:=hide (show H=(L.all (hitP x.net.ls x.id)&&ascB ordH L) by rw [HH.out];unfold Zdr;rw [decide_eq_true hodd,decide_eq_true h60, <-hL];rfl)
 have HLL:=hide (show 2*L.length=x.heard.length by rw [hL,HPL.out];omega)
 have HL:=hide hL;clear hL hodd h60;have hp3:((x.heard.length:Int)%2==1)=false:=by simpa using hp1
 have hp4:decide ((60:Int)<(x.heard.length:Int))=false:=decide_eq_false (by omega)
 go_enter Tryz.func44,Tryz.ntmps44
 go_wp2
 obtain⟨w1,hw1⟩:∃ W,W=w.alloc (.cells #[.int .i64 x.id,.int .i64 x.boot,.int .i64 x.net.n,.slice a1 x.net.ls.length c1,.slice a2 x.net.ts.length c2,.slice a3 x.heard.length c3,.slice a4 ps.length c4] 41):=⟨_,rfl⟩;rw [<-hw1] at BA G0
 first
  | rw [<-hw1]
  | skip
 clear hw1
 go_loopw [3] (fun i wr=>∃ k:Nat,k<=L.length/\i=.int .i64 (2*(k:Int))/\Hid (∀ j,j<k->okAt (hitP x.net.ls x.id) L j=true/\ZbP ordH L j=true)/\Below w1.heap.size w1 wr) (fun i _=>70-(intOf i).toNat)
 case atStart=>exact ⟨0,by omega,rfl,hide (by omega),Below.refl _ _⟩
 case round=>
  obtain⟨k,hk,rfl,HNO,hb⟩:=hrel;have gr:=(hb.block _ (Zab G0.out)).trans G0.out;have B2:Below w.heap.size w wr:=BA.trans (hb.mono BA.size);have t0:=Zaa gr 0;have t2:=Zaa gr 2;have t3:=Zaa gr 3;have t4:=Zaa gr 4;have t5:=Zaa gr 5;simp at t0 t2 t3 t4 t5
  have hgl:=Zab gr;have GR:=hide gr;clear gr;by_cases hlt:k<L.length
  ·have hll:=HLL.out
   have hj0:2*(k:Int)<(x.heard.length:Int):=by omega
   have hj1:2*(k:Int)+1<(x.heard.length:Int):=by omega
   obtain⟨y,hy⟩:∃ y,x.heard[2*k]? = some y:=⟨x.heard[2*k]'(by omega),List.getElem?_eq_getElem (by omega)⟩
   obtain⟨z,hz⟩:∃ z,x.heard[2*k+1]? = some z:=⟨x.heard[2*k+1]'(by omega),List.getElem?_eq_getElem (by omega)⟩
   have hLk:L[k]? = some (y,z):=by rw [HL.out];exact ZfL _ _ _ _ hy hz
   obtain⟨b,off,cap',hve,hbb,d0⟩:=HX.out.heard.cell (2*k) y hy;cases hve
   obtain⟨b',off',cap2,hve2,hbb2,d1⟩:=HX.out.heard.cell (2*k+1) z hz;cases hve2
   rw [<-B2.cell (p:=⟨b,off+2*k,none⟩) hbb] at d0;rw [<-B2.cell (p:=⟨b,off+(2*k+1),none⟩) hbb] at d1;have q0:(0:Int)<=2*(k:Int):=by omega
   have q1:(0:Int)<=2*(k:Int)+1:=by omega
   have q4:(2*(k:Int)).toNat=2*k:=by omega
   have q5:(2*(k:Int)+1).toNat=2*k+1:=by omega
   have q6:IntKind.i64.wrap (2*(k:Int)+1)=2*(k:Int)+1:=ZaC _ (by omega) (by omega)
   have HC:=hide (Zgt (.int .i64 x.net.n) (.slice a1 x.net.ls.length c1) (.slice a2 x.net.ts.length c2) x.net.ls x.id y z wr hl (ZaL.then HX.out.links B2));obtain⟨C,hC⟩:∃ C,C=ZbS x.net.ls x.id y z:=⟨_,rfl⟩;rw [<-hC] at HC;have HOK:=hide (show okAt (hitP x.net.ls x.id) L k = !(C==0) by rw [Zb2 hLk,hC];rfl)
   have HLK:=hide hLk;clear hC hy hz hll hLk
   go_wp2_with fail
   refine HC.out.mono ?_
   rintro e w3 ⟨rfl,b3⟩;have hbs:=hb.size;have B3:Below w1.heap.size w1 w3:=hb.trans (b3.mono hbs);have B4:Below w.heap.size w w3:=BA.trans (B3.mono BA.size);have g3:=(b3.block _ hgl).trans GR.out;clear HC t0 t2 t3 t4 t5 d0 d1;have t5:=Zaa g3 5;simp at t5
   clear g3;by_cases hc0:C=0
   ·have HF:=hide (show H=false by
     rw [HH2.out];have:L.all (hitP x.net.ls x.id)=false:=by
      rw [List.all_eq_false];refine⟨L[k],List.getElem_mem hlt,?_⟩
      have h:=HOK.out;rw [Zb2 (List.getElem?_eq_getElem hlt),hc0] at h;rw [h];simp
     rw [this,Bool.false_and])
    subst hc0
    go_wp2
    go_ret
    exact⟨Zag HF.out,B4⟩
   ·have HT:=hide (show okAt (hitP x.net.ls x.id) L k=true by rw [HOK.out];simpa using hc0)
    rcases (show k=0\/∃ m,k=m+1 by cases k with
     | zero=>exact .inl rfl
     | succ m=>exact .inr ⟨m,rfl⟩) with hk0 | ⟨m,hm⟩
    ·have HA0:=hide (show ∀ j,j<k+1->okAt (hitP x.net.ls x.id) L j=true/\ZbP ordH L j=true from fun j hj=>by
      obtain rfl:j=0:=by omega
      refine⟨?_,rfl⟩
      have h:=HT.out;rw [hk0] at h;exact h)
     have hnk:¬(0:Int)<2*(k:Int):=by omega
     clear hk0
     go_wp2
     go_roundw
     case rel=>exact ⟨k+1,by omega,by go_num,HA0,B3⟩
     case measure=>simp [intOf];omega
    ·have hll:=HLL.out
     obtain⟨p,hp⟩:∃ p,x.heard[2*m]? = some p:=⟨x.heard[2*m]'(by omega),List.getElem?_eq_getElem (by omega)⟩
     obtain⟨q,hq⟩:∃ q,x.heard[2*m+1]? = some q:=⟨x.heard[2*m+1]'(by omega),List.getElem?_eq_getElem (by omega)⟩
     have hLm:L[m]? = some (p,q):=by rw [HL.out];exact ZfL _ _ _ _ hp hq
     obtain⟨b',off',cap2,hve2,hbb2,e0⟩:=HX.out.heard.cell (2*m) p hp;cases hve2
     obtain⟨b',off',cap2,hve2,hbb2,e1⟩:=HX.out.heard.cell (2*m+1) q hq;cases hve2
     rw [<-B4.cell (p:=⟨b,off+2*m,none⟩) hbb] at e0;rw [<-B4.cell (p:=⟨b,off+(2*m+1),none⟩) hbb] at e1;have HAT:=hide (show ZbP ordH L k=decide (ordH (p,q) (y,z)<0) by rw [hm];exact ZbV hLm (by rw [<-hm];exact HLK.out))
     have r1:2*(k:Int)-2=2*(m:Int):=by omega
     have r2:2*(k:Int)-1=2*(m:Int)+1:=by omega
     have r3:IntKind.i64.wrap (2*(m:Int))=2*(m:Int):=ZaC _ (by omega) (by omega)
     have r4:IntKind.i64.wrap (2*(m:Int)+1)=2*(m:Int)+1:=ZaC _ (by omega) (by omega)
     have r5:(2*(m:Int)).toNat=2*m:=by omega
     have r6:(2*(m:Int)+1).toNat=2*m+1:=by omega
     have r7:(0:Int)<=2*(m:Int):=by omega
     have r8:2*(m:Int)<(x.heard.length:Int):=by omega
     have r9:2*(m:Int)+1<(x.heard.length:Int):=by omega
     have r10:(0:Int)<=2*(m:Int)+1:=by omega
     have hnk:(0:Int)<2*(k:Int):=by omega
     have HM:=hide hm;clear hp hq hLm hll hm;have HBAD:=hide (show ¬ordH (p,q) (y,z)<0->H=false from fun h=>by
      rw [HH2.out];have:ascB ordH L=false:=ZaH hlt (by rw [HAT.out];exact decide_eq_false h)
      rw [this,Bool.and_false])
     have HGOOD:=hide (show ordH (p,q) (y,z)<0->∀ j,j<k+1->okAt (hitP x.net.ls x.id) L j=true/\ZbP ordH L j=true from fun h j hj=>by
      by_cases e:j=k
      ·subst e
       exact⟨HT.out,by rw [HAT.out];exact decide_eq_true h⟩
      ·exact HNO.out j (by omega))
     by_cases hpy:y<p
     ·have HF:=hide (HBAD.out (fun h=>by have:=(Zfl _ _).1 h;simp only [] at this;omega))
      clear HBAD HGOOD
      go_wp2
      go_ret
      exact⟨Zag HF.out,B4⟩
     ·by_cases hpe:p=y
      ·by_cases hqz:z<=q
       ·have HF:=hide (HBAD.out (fun h=>by have:=(Zfl _ _).1 h;simp only [] at this;omega))
        clear HBAD HGOOD;subst hpe
        go_wp2
        go_ret
        exact⟨Zag HF.out,B4⟩
       ·have HG:=hide (HGOOD.out ((Zfl _ _).2 (by simp only [];omega)))
        clear HBAD HGOOD;have z1:decide (y<p)=false:=decide_eq_false hpy;have z2:(p==y)=true:=by simpa using hpe
        have z3:decide (z<=q)=false:=decide_eq_false hqz;clear hpy hqz hpe
        go_wp2
        go_roundw
        case rel=>exact ⟨k+1,by omega,by go_num,HG,B3⟩
        case measure=>simp [intOf];omega
      ·have HG:=hide (HGOOD.out ((Zfl _ _).2 (by simp only [];omega)))
       clear HBAD HGOOD;have z1:decide (y<p)=false:=decide_eq_false hpy;have z2:(p==y)=false:=by simpa using hpe
       clear hpy hpe
       go_wp2
       go_roundw
       case rel=>exact ⟨k+1,by omega,by go_num,HG,B3⟩
       case measure=>simp [intOf];omega
  ·have hll:=HLL.out
   have hkj:¬2*(k:Int)<(x.heard.length:Int):=by omega
   have HF:=hide (show H=true by
    rw [HH2.out];have h1:L.all (hitP x.net.ls x.id)=true:=by
     rw [List.all_eq_true];intro q hq;obtain⟨i,hi,e⟩:=List.mem_iff_getElem.1 hq;have h:=(HNO.out i (by omega)).1
     rw [Zb2 (List.getElem?_eq_getElem hi),e] at h;exact h
    rw [h1,Zpy (fun j hj=>(HNO.out j (by omega)).2)]
    rfl)
   clear hll HNO
   go_wp2
   go_ret
   exact⟨Zag HF.out,B2⟩
theorem Zn2 {xs:List RecD}{k:Nat}(hk:k<xs.length)(h:ZbP ordR xs k=false):ZaJ xs=false:=by unfold ZaJ ascB;rw [ZaH hk h];simp
theorem Zc0 (v:Value)(ps:List RP)(w:World)(hn:tot ps<=1048576)(hv:Zbo w v ps w.heap.size):
  Calls Tryz.prog 45 #[v] w fun e w'=>e=.returned (.bool (ZaJ (fsts ps)))/\Below w.heap.size w w':=by
 have hnl:=Zca ps;obtain⟨a,cap,rfl⟩:=hv.shape;have HV:=hide hv;clear hv;have hfl:(fsts ps).length=ps.length:=by simp [fsts]
 by_cases hlong:(150:Int)<(ps.length:Int)
 ·have HF:=hide (Zht (xs:=fsts ps) (by omega))
  clear hfl
  go_enter Tryz.func45,Tryz.ntmps45
  go_wp2
  go_ret
  exact⟨Zag HF.out,Below.refl _ _⟩
 have HFL:=hide hfl;clear hfl
 go_enter Tryz.func45,Tryz.ntmps45
 go_wp2
 go_loopw [3] (fun i wr=>∃ k:Nat,k<=ps.length/\i=.int .i64 k/\(∀ j,j<k->okAt ZbH (fsts ps) j=true)/\(∀ j,j<k->ZbP ordR (fsts ps) j=true)/\Below w.heap.size w wr) (fun i _=>ps.length-(intOf i).toNat)
 case atStart=>exact ⟨0,by omega,rfl,by omega,by omega,Below.refl _ _⟩
 case round=>
  obtain⟨k,hk,rfl,hall,hasc,hnx⟩:=hrel;have HALL:=hide hall;have HASC:=hide hasc;clear hall hasc;have hsz:=hnx.size;by_cases hlt:k<ps.length
  ·obtain ⟨l,hl⟩:∃ p,ps[k]? = some p:=⟨ps[k],List.getElem?_eq_getElem hlt⟩
   obtain⟨b,off,cap',hve,hbb,c0,c1,c2,c3,c4,c5,c6,c7,hnr⟩:=HV.out.cells k l hl;cases hve
   rw [<-hnx.cell (p:=⟨b,off+k*8,none⟩) hbb] at c0;rw [<-hnx.cell (p:=⟨b,off+k*8+1,none⟩) hbb] at c1;rw [<-hnx.cell (p:=⟨b,off+k*8+2,none⟩) hbb] at c2;rw [<-hnx.cell (p:=⟨b,off+k*8+3,none⟩) hbb] at c3;rw [<-hnx.cell (p:=⟨b,off+k*8+4,none⟩) hbb] at c4;rw [<-hnx.cell (p:=⟨b,off+k*8+5,none⟩) hbb] at c5;rw [<-hnx.cell (p:=⟨b,off+k*8+6,none⟩) hbb] at c6;rw [<-hnx.cell (p:=⟨b,off+k*8+7,none⟩) hbb] at c7;have HOK:=hide (fun W (hb:Below w.heap.size w W)=>Zmn l.2 l.1 W (by have:=Zez (List.mem_of_getElem? hl);omega) ((ZaL.later hnr hb (Nat.le_refl _)).more hb.size))
   unfold recC at HOK;have HAT1:=hide (Zb2 (ok:=ZbH) (Zbw hl));obtain⟨qo,hqo⟩:∃ q,q=ZbH l.1:=⟨_,rfl⟩;rw [<-hqo] at HOK HAT1;have HL:=hide (Zbw hl);clear hqo hl hnr;have hbr:b<wr.heap.size:=by omega
   have hki:(0:Int)<=(k:Int):=by omega
   have hkj:(k:Int)<(ps.length:Int):=by omega
   have hnd:Below w.heap.size w wr.drew:=hnx.drew;cases qo
   ·have HF:=hide (Zjp (by rw [HFL.out];exact hlt) HAT1.out)
    go_wp2
    refine Zam (S:=(fun W=>W.cell? ⟨b,off+k*8,none⟩=some (.int .i64 l.1.area)/\W.cell? ⟨b,off+k*8+1,none⟩=some (.int .i64 l.1.kind)/\W.cell? ⟨b,off+k*8+2,none⟩=some (.int .i64 l.1.owner)/\W.cell? ⟨b,off+k*8+3,none⟩=some (.int .i64 l.1.key)/\W.cell? ⟨b,off+k*8+4,none⟩=some (.int .i64 l.1.seq)/\W.cell? ⟨b,off+k*8+5,none⟩=some (l.2)/\W.cell? ⟨b,off+k*8+6,none⟩=some (.int .i64 l.1.cost)/\W.cell? ⟨b,off+k*8+7,none⟩=some (.bool l.1.far))) (by kernel_rfl) 23 rfl ⟨c0,c1,c2,c3,c4,c5,c6,c7⟩ (fun ops hops hHeld=>?_)
    iterate 4
     refine Zar 23 ?_ ?_ ?_ (by rw [hops.out];kernel_rfl) ?_ ?_ (by assumption) ?_
     rotate_left 2
     ·rw [hops.out];simp only [getS,Nat.reduceSub,Nat.reduceAdd];rfl
     ·intro W hW;(try dsimp only at hW);go_simp <;> with_reducible rfl
     ·exact fun _ _ _=>id
     try simp only [putS]
    refine Zao 4 (oi:=?_) ?_ (by rw [hops.out];kernel_rfl) ?_ ?_
    rotate_left 1
    ·rw [hops.out];simp only [getS];rfl
    ·rw [hops.out];kernel_rfl
    intro K hK
    go_simp
    refine (HOK.out _ hnd).mono ?_
    rintro e w1 ⟨rfl,b1⟩;have hSn:_/\_:=(show ((fun W=>W.cell? ⟨b,off+k*8,none⟩=some (.int .i64 l.1.area)/\W.cell? ⟨b,off+k*8+1,none⟩=some (.int .i64 l.1.kind)/\W.cell? ⟨b,off+k*8+2,none⟩=some (.int .i64 l.1.owner)/\W.cell? ⟨b,off+k*8+3,none⟩=some (.int .i64 l.1.key)/\W.cell? ⟨b,off+k*8+4,none⟩=some (.int .i64 l.1.seq)/\W.cell? ⟨b,off+k*8+5,none⟩=some (l.2)/\W.cell? ⟨b,off+k*8+6,none⟩=some (.int .i64 l.1.cost)/\W.cell? ⟨b,off+k*8+7,none⟩=some (.bool l.1.far))) w1 from by
     obtain⟨m0,m1,m2,m3,m4,m5,m6,m7⟩:=hHeld;refine⟨?_,?_,?_,?_,?_,?_,?_,?_⟩ <;> (refine (b1.cell ?_).trans ?_ <;> assumption))
    refine hK.out _ _ hSn (fun hHeld=>?_)
    clear hK K hSn
    try simp only [putS]
    iterate 2
     refine Zar 23 ?_ ?_ ?_ (by rw [hops.out];kernel_rfl) ?_ ?_ (by assumption) ?_
     rotate_left 2
     ·rw [hops.out];simp only [getS,Nat.reduceSub,Nat.reduceAdd];rfl
     ·intro W hW;(try dsimp only at hW);go_simp <;> with_reducible rfl
     ·exact fun _ _ _=>id
     try simp only [putS]
    refine Zad 7 20 (by rw [hops.out];kernel_rfl) (fun _ _ _ h=>h) (by assumption) ?_
    try simp only [putS]
    refine Zad 8 21 (by rw [hops.out];kernel_rfl) (fun _ _ _ h=>h) (by assumption) ?_
    try simp only [putS]
    refine Zad 9 22 (by rw [hops.out];kernel_rfl) (fun _ _ _ h=>h) (by assumption) ?_
    try simp only [putS]
    refine Zad 10 23 (by rw [hops.out];kernel_rfl) (fun _ _ _ h=>h) (by assumption) ?_
    try simp only [putS]
    refine Zad 11 24 (by rw [hops.out];kernel_rfl) (fun _ _ _ h=>h) (by assumption) ?_
    try simp only [putS]
    refine Zad 12 25 (by rw [hops.out];kernel_rfl) (fun _ _ _ h=>h) (by assumption) ?_
    try simp only [putS]
    refine Zad 13 26 (by rw [hops.out];kernel_rfl) (fun _ _ _ h=>h) (by assumption) ?_
    try simp only [putS]
    refine Zad 14 27 (by rw [hops.out];kernel_rfl) (fun _ _ _ h=>h) (by assumption) ?_
    try simp only [putS]
    refine Zad 15 28 (by rw [hops.out];kernel_rfl) (fun _ _ _ h=>h) (by assumption) ?_
    try simp only [putS]
    refine Zad 16 29 (by rw [hops.out];kernel_rfl) (fun _ _ _ h=>h) (by assumption) ?_
    try simp only [putS]
    refine Zad 17 30 (by rw [hops.out];kernel_rfl) (fun _ _ _ h=>h) (by assumption) ?_
    try simp only [putS]
    refine Zad 18 31 (by rw [hops.out];kernel_rfl) (fun _ _ _ h=>h) (by assumption) ?_
    try simp only [putS]
    refine Zad 19 32 (by rw [hops.out];kernel_rfl) (fun _ _ _ h=>h) (by assumption) ?_
    try simp only [putS]
    refine Zad 20 33 (by rw [hops.out];kernel_rfl) (fun _ _ _ h=>h) (by assumption) ?_
    try simp only [putS]
    refine Zad 21 34 (by rw [hops.out];kernel_rfl) (fun _ _ _ h=>h) (by assumption) ?_
    try simp only [putS]
    refine ZaW 22 ?_ ?_ ?_ (by rw [hops.out];kernel_rfl) ?_ ?_ (by assumption) ?_
    rotate_left 2
    ·rw [hops.out];simp only [getS];rfl
    ·intro W hW;(try dsimp only at hW);go_simp <;> with_reducible rfl
    ·exact fun _ _ _=>id
    try simp only [putS]
    refine wpAnyH_done (by rw [hops.out];kernel_rfl) ?_ _
    clear hops ops
    go_wp2
    go_ret
    exact⟨Zag HF.out,hnd.trans (b1.mono hsz)⟩
   by_cases hk0:k=0
   ·have hk1:¬(0:Int)<(k:Int):=by omega
    have HAT2:=hide (show ZbP ordR (fsts ps) k=true by rw [hk0];rfl)
    clear hk0
    go_wp2
    refine Zam (S:=(fun W=>W.cell? ⟨b,off+k*8,none⟩=some (.int .i64 l.1.area)/\W.cell? ⟨b,off+k*8+1,none⟩=some (.int .i64 l.1.kind)/\W.cell? ⟨b,off+k*8+2,none⟩=some (.int .i64 l.1.owner)/\W.cell? ⟨b,off+k*8+3,none⟩=some (.int .i64 l.1.key)/\W.cell? ⟨b,off+k*8+4,none⟩=some (.int .i64 l.1.seq)/\W.cell? ⟨b,off+k*8+5,none⟩=some (l.2)/\W.cell? ⟨b,off+k*8+6,none⟩=some (.int .i64 l.1.cost)/\W.cell? ⟨b,off+k*8+7,none⟩=some (.bool l.1.far))) (by kernel_rfl) 23 rfl ⟨c0,c1,c2,c3,c4,c5,c6,c7⟩ (fun ops hops hHeld=>?_)
    iterate 4
     refine Zar 23 ?_ ?_ ?_ (by rw [hops.out];kernel_rfl) ?_ ?_ (by assumption) ?_
     rotate_left 2
     ·rw [hops.out];simp only [getS,Nat.reduceSub,Nat.reduceAdd];rfl
     ·intro W hW;(try dsimp only at hW);go_simp <;> with_reducible rfl
     ·exact fun _ _ _=>id
     try simp only [putS]
    refine Zao 4 (oi:=?_) ?_ (by rw [hops.out];kernel_rfl) ?_ ?_
    rotate_left 1
    ·rw [hops.out];simp only [getS];rfl
    ·rw [hops.out];kernel_rfl
    intro K hK
    go_simp
    refine (HOK.out _ hnd).mono ?_
    rintro e w1 ⟨rfl,b1⟩;have hSn:_/\_:=(show ((fun W=>W.cell? ⟨b,off+k*8,none⟩=some (.int .i64 l.1.area)/\W.cell? ⟨b,off+k*8+1,none⟩=some (.int .i64 l.1.kind)/\W.cell? ⟨b,off+k*8+2,none⟩=some (.int .i64 l.1.owner)/\W.cell? ⟨b,off+k*8+3,none⟩=some (.int .i64 l.1.key)/\W.cell? ⟨b,off+k*8+4,none⟩=some (.int .i64 l.1.seq)/\W.cell? ⟨b,off+k*8+5,none⟩=some (l.2)/\W.cell? ⟨b,off+k*8+6,none⟩=some (.int .i64 l.1.cost)/\W.cell? ⟨b,off+k*8+7,none⟩=some (.bool l.1.far))) w1 from by
     obtain⟨m0,m1,m2,m3,m4,m5,m6,m7⟩:=hHeld;refine⟨?_,?_,?_,?_,?_,?_,?_,?_⟩ <;> (refine (b1.cell ?_).trans ?_ <;> assumption))
    refine hK.out _ _ hSn (fun hHeld=>?_)
    clear hK K hSn
    try simp only [putS]
    iterate 3
     refine Zar 23 ?_ ?_ ?_ (by rw [hops.out];kernel_rfl) ?_ ?_ (by assumption) ?_
     rotate_left 2
     ·rw [hops.out];simp only [getS,Nat.reduceSub,Nat.reduceAdd];rfl
     ·intro W hW;(try dsimp only at hW);go_simp <;> with_reducible rfl
     ·exact fun _ _ _=>id
     try simp only [putS]
    refine ZaS 8 (oi:=?_) (v:=.bool false) ?_ (by rw [hops.out];kernel_rfl) ?_ ?_ ?_ (by assumption) ?_
    rotate_left 1
    ·rw [hops.out];simp only [getS];rfl
    ·rw [hops.out];kernel_rfl
    ·intro W hW;(try dsimp only at hW);go_simp <;> (first | with_reducible rfl | (simp;omega) | omega)
    ·exact fun _ _ _=>id
    try simp only [putS]
    refine ZaW 9 ?_ ?_ ?_ (by rw [hops.out];kernel_rfl) ?_ ?_ (by assumption) ?_
    rotate_left 2
    ·rw [hops.out];simp only [getS];rfl
    ·intro W hW;(try dsimp only at hW);go_simp <;> with_reducible rfl
    ·exact fun _ _ _=>id
    try simp only [putS]
    refine Zad 10 23 (by rw [hops.out];kernel_rfl) (fun _ _ _ h=>h) (by assumption) ?_
    try simp only [putS]
    refine Zad 11 24 (by rw [hops.out];kernel_rfl) (fun _ _ _ h=>h) (by assumption) ?_
    try simp only [putS]
    refine Zad 12 25 (by rw [hops.out];kernel_rfl) (fun _ _ _ h=>h) (by assumption) ?_
    try simp only [putS]
    refine Zad 13 26 (by rw [hops.out];kernel_rfl) (fun _ _ _ h=>h) (by assumption) ?_
    try simp only [putS]
    refine Zad 14 27 (by rw [hops.out];kernel_rfl) (fun _ _ _ h=>h) (by assumption) ?_
    try simp only [putS]
    refine Zad 15 28 (by rw [hops.out];kernel_rfl) (fun _ _ _ h=>h) (by assumption) ?_
    try simp only [putS]
    refine Zad 16 29 (by rw [hops.out];kernel_rfl) (fun _ _ _ h=>h) (by assumption) ?_
    try simp only [putS]
    refine Zad 17 30 (by rw [hops.out];kernel_rfl) (fun _ _ _ h=>h) (by assumption) ?_
    try simp only [putS]
    refine Zad 18 31 (by rw [hops.out];kernel_rfl) (fun _ _ _ h=>h) (by assumption) ?_
    try simp only [putS]
    refine Zad 19 32 (by rw [hops.out];kernel_rfl) (fun _ _ _ h=>h) (by assumption) ?_
    try simp only [putS]
    refine Zad 20 33 (by rw [hops.out];kernel_rfl) (fun _ _ _ h=>h) (by assumption) ?_
    try simp only [putS]
    iterate 2
     refine Zar 23 ?_ ?_ ?_ (by rw [hops.out];kernel_rfl) ?_ ?_ (by assumption) ?_
     rotate_left 2
     ·rw [hops.out];simp only [getS,Nat.reduceSub,Nat.reduceAdd];rfl
     ·intro W hW;(try dsimp only at hW);go_simp <;> with_reducible rfl
     ·exact fun _ _ _=>id
     try simp only [putS]
    refine wpAnyH_done (by rw [hops.out];kernel_rfl) ?_ _
    clear hops ops
    go_wp2
    exact⟨⟨k+1,by omega,by go_num,ZaE HALL.out HAT1.out,ZaE HASC.out HAT2.out,hnd.trans (b1.mono hsz)⟩,by simp [intOf];omega⟩
   ·obtain ⟨j,hj⟩:∃ j,k=j+1:=⟨k-1,by omega⟩
    obtain⟨p,hp⟩:∃ p,ps[j]? = some p:=⟨ps[j],List.getElem?_eq_getElem (by omega)⟩
    obtain⟨b',off',cap2,hve2,hbb2,d0,d1,d2,d3,d4,d5,d6,d7,_⟩:=HV.out.cells j p hp;cases hve2
    rw [<-hnx.cell (p:=⟨b,off+j*8,none⟩) hbb] at d0;rw [<-hnx.cell (p:=⟨b,off+j*8+1,none⟩) hbb] at d1;rw [<-hnx.cell (p:=⟨b,off+j*8+2,none⟩) hbb] at d2;rw [<-hnx.cell (p:=⟨b,off+j*8+3,none⟩) hbb] at d3;rw [<-hnx.cell (p:=⟨b,off+j*8+4,none⟩) hbb] at d4;rw [<-hnx.cell (p:=⟨b,off+j*8+5,none⟩) hbb] at d5;rw [<-hnx.cell (p:=⟨b,off+j*8+6,none⟩) hbb] at d6;rw [<-hnx.cell (p:=⟨b,off+j*8+7,none⟩) hbb] at d7;have hat2:ZbP ordR (fsts ps) k=decide (ordR p.1 l.1<0):=by rw [hj];exact ZbV (Zbw hp) (by rw [<-hj];exact HL.out)
    rw [ZoZ] at hat2;have hj1:(k:Int)-1=(j:Int):=by omega
    have hj2:(0:Int)<=(j:Int):=by omega
    have hj3:(j:Int)<(ps.length:Int):=by omega
    have hj4:(0:Int)<(k:Int):=by omega
    have hj5:IntKind.i64.wrap (j:Int)=(j:Int):=ZaC _ (by omega) (by omega)
    have HBF:=hide (fun W=>Zkn p.2 l.2 p.1 l.1 W)
    unfold recC at HBF;obtain⟨qb,hqb⟩:∃ q,q=Ze6 p.1 l.1:=⟨_,rfl⟩;rw [<-hqb] at HBF hat2;have HAT2:=hide hat2;clear hqb hp hat2 hj hk0 hbb2;cases qb
    ·have HF:=hide (Zn2 (by rw [HFL.out];exact hlt) HAT2.out)
     go_wp2
     refine Zam (S:=(fun W=>W.cell? ⟨b,off+k*8,none⟩=some (.int .i64 l.1.area)/\W.cell? ⟨b,off+k*8+1,none⟩=some (.int .i64 l.1.kind)/\W.cell? ⟨b,off+k*8+2,none⟩=some (.int .i64 l.1.owner)/\W.cell? ⟨b,off+k*8+3,none⟩=some (.int .i64 l.1.key)/\W.cell? ⟨b,off+k*8+4,none⟩=some (.int .i64 l.1.seq)/\W.cell? ⟨b,off+k*8+5,none⟩=some (l.2)/\W.cell? ⟨b,off+k*8+6,none⟩=some (.int .i64 l.1.cost)/\W.cell? ⟨b,off+k*8+7,none⟩=some (.bool l.1.far)/\W.cell? ⟨b,off+j*8,none⟩=some (.int .i64 p.1.area)/\W.cell? ⟨b,off+j*8+1,none⟩=some (.int .i64 p.1.kind)/\W.cell? ⟨b,off+j*8+2,none⟩=some (.int .i64 p.1.owner)/\W.cell? ⟨b,off+j*8+3,none⟩=some (.int .i64 p.1.key)/\W.cell? ⟨b,off+j*8+4,none⟩=some (.int .i64 p.1.seq)/\W.cell? ⟨b,off+j*8+5,none⟩=some (p.2)/\W.cell? ⟨b,off+j*8+6,none⟩=some (.int .i64 p.1.cost)/\W.cell? ⟨b,off+j*8+7,none⟩=some (.bool p.1.far))) (by kernel_rfl) 23 rfl ⟨c0,c1,c2,c3,c4,c5,c6,c7,d0,d1,d2,d3,d4,d5,d6,d7⟩ (fun ops hops hHeld=>?_)
     iterate 4
      refine Zar 23 ?_ ?_ ?_ (by rw [hops.out];kernel_rfl) ?_ ?_ (by assumption) ?_
      rotate_left 2
      ·rw [hops.out];simp only [getS,Nat.reduceSub,Nat.reduceAdd];rfl
      ·intro W hW;(try dsimp only at hW);go_simp <;> with_reducible rfl
      ·exact fun _ _ _=>id
      try simp only [putS]
     refine Zao 4 (oi:=?_) ?_ (by rw [hops.out];kernel_rfl) ?_ ?_
     rotate_left 1
     ·rw [hops.out];simp only [getS];rfl
     ·rw [hops.out];kernel_rfl
     intro K hK
     go_simp
     refine (HOK.out _ hnd).mono ?_
     rintro e w1 ⟨rfl,b1⟩;have hSn:_/\_:=(show ((fun W=>W.cell? ⟨b,off+k*8,none⟩=some (.int .i64 l.1.area)/\W.cell? ⟨b,off+k*8+1,none⟩=some (.int .i64 l.1.kind)/\W.cell? ⟨b,off+k*8+2,none⟩=some (.int .i64 l.1.owner)/\W.cell? ⟨b,off+k*8+3,none⟩=some (.int .i64 l.1.key)/\W.cell? ⟨b,off+k*8+4,none⟩=some (.int .i64 l.1.seq)/\W.cell? ⟨b,off+k*8+5,none⟩=some (l.2)/\W.cell? ⟨b,off+k*8+6,none⟩=some (.int .i64 l.1.cost)/\W.cell? ⟨b,off+k*8+7,none⟩=some (.bool l.1.far)/\W.cell? ⟨b,off+j*8,none⟩=some (.int .i64 p.1.area)/\W.cell? ⟨b,off+j*8+1,none⟩=some (.int .i64 p.1.kind)/\W.cell? ⟨b,off+j*8+2,none⟩=some (.int .i64 p.1.owner)/\W.cell? ⟨b,off+j*8+3,none⟩=some (.int .i64 p.1.key)/\W.cell? ⟨b,off+j*8+4,none⟩=some (.int .i64 p.1.seq)/\W.cell? ⟨b,off+j*8+5,none⟩=some (p.2)/\W.cell? ⟨b,off+j*8+6,none⟩=some (.int .i64 p.1.cost)/\W.cell? ⟨b,off+j*8+7,none⟩=some (.bool p.1.far))) w1 from by
      obtain⟨m0,m1,m2,m3,m4,m5,m6,m7,n0,n1,n2,n3,n4,n5,n6,n7⟩:=hHeld;refine⟨?_,?_,?_,?_,?_,?_,?_,?_,?_,?_,?_,?_,?_,?_,?_,?_⟩ <;> (refine (b1.cell ?_).trans ?_ <;> assumption))
     refine hK.out _ _ hSn (fun hHeld=>?_)
     clear hK K hSn
     try simp only [putS]
     have hbr:b<w1.heap.size:=Nat.lt_of_lt_of_le hbr b1.size
     iterate 3
      refine Zar 23 ?_ ?_ ?_ (by rw [hops.out];kernel_rfl) ?_ ?_ (by assumption) ?_
      rotate_left 2
      ·rw [hops.out];simp only [getS,Nat.reduceSub,Nat.reduceAdd];rfl
      ·intro W hW;(try dsimp only at hW);go_simp <;> with_reducible rfl
      ·exact fun _ _ _=>id
      try simp only [putS]
     refine ZaS 8 (oi:=?_) (v:=.bool true) ?_ (by rw [hops.out];kernel_rfl) ?_ ?_ ?_ (by assumption) ?_
     rotate_left 1
     ·rw [hops.out];simp only [getS];rfl
     ·rw [hops.out];kernel_rfl
     ·intro W hW;(try dsimp only at hW);go_simp <;> (first | with_reducible rfl | (simp;omega) | omega)
     ·exact fun _ _ _=>id
     try simp only [putS]
     iterate 10
      refine Zar 23 ?_ ?_ ?_ (by rw [hops.out];kernel_rfl) ?_ ?_ (by assumption) ?_
      rotate_left 2
      ·rw [hops.out];simp only [getS,Nat.reduceSub,Nat.reduceAdd];rfl
      ·intro W hW;(try dsimp only at hW);go_simp <;> with_reducible rfl
      ·exact fun _ _ _=>id
      try simp only [putS]
     refine Zao 19 (oi:=?_) ?_ (by rw [hops.out];kernel_rfl) ?_ ?_
     rotate_left 1
     ·rw [hops.out];simp only [getS];rfl
     ·rw [hops.out];kernel_rfl
     intro K hK
     go_simp
     refine (HBF.out _).mono ?_
     rintro e w2 ⟨rfl,b2⟩;have hSn:_/\_:=(show ((fun W=>W.cell? ⟨b,off+k*8,none⟩=some (.int .i64 l.1.area)/\W.cell? ⟨b,off+k*8+1,none⟩=some (.int .i64 l.1.kind)/\W.cell? ⟨b,off+k*8+2,none⟩=some (.int .i64 l.1.owner)/\W.cell? ⟨b,off+k*8+3,none⟩=some (.int .i64 l.1.key)/\W.cell? ⟨b,off+k*8+4,none⟩=some (.int .i64 l.1.seq)/\W.cell? ⟨b,off+k*8+5,none⟩=some (l.2)/\W.cell? ⟨b,off+k*8+6,none⟩=some (.int .i64 l.1.cost)/\W.cell? ⟨b,off+k*8+7,none⟩=some (.bool l.1.far)/\W.cell? ⟨b,off+j*8,none⟩=some (.int .i64 p.1.area)/\W.cell? ⟨b,off+j*8+1,none⟩=some (.int .i64 p.1.kind)/\W.cell? ⟨b,off+j*8+2,none⟩=some (.int .i64 p.1.owner)/\W.cell? ⟨b,off+j*8+3,none⟩=some (.int .i64 p.1.key)/\W.cell? ⟨b,off+j*8+4,none⟩=some (.int .i64 p.1.seq)/\W.cell? ⟨b,off+j*8+5,none⟩=some (p.2)/\W.cell? ⟨b,off+j*8+6,none⟩=some (.int .i64 p.1.cost)/\W.cell? ⟨b,off+j*8+7,none⟩=some (.bool p.1.far))) w2 from by
      obtain⟨m0,m1,m2,m3,m4,m5,m6,m7,n0,n1,n2,n3,n4,n5,n6,n7⟩:=hHeld;refine⟨?_,?_,?_,?_,?_,?_,?_,?_,?_,?_,?_,?_,?_,?_,?_,?_⟩ <;> (refine (b2.cell ?_).trans ?_ <;> assumption))
     refine hK.out _ _ hSn (fun hHeld=>?_)
     clear hK K hSn
     try simp only [putS]
     iterate 3
      refine Zar 23 ?_ ?_ ?_ (by rw [hops.out];kernel_rfl) ?_ ?_ (by assumption) ?_
      rotate_left 2
      ·rw [hops.out];simp only [getS,Nat.reduceSub,Nat.reduceAdd];rfl
      ·intro W hW;(try dsimp only at hW);go_simp <;> with_reducible rfl
      ·exact fun _ _ _=>id
      try simp only [putS]
     refine wpAnyH_done (by rw [hops.out];kernel_rfl) ?_ _
     clear hops ops
     go_wp2
     go_ret
     exact⟨Zag HF.out,(hnd.trans (b1.mono hsz)).trans (b2.mono (by have:=b1.size;have:wr.drew.heap.size=wr.heap.size:=rfl;omega))⟩
    ·go_wp2
     refine Zam (S:=(fun W=>W.cell? ⟨b,off+k*8,none⟩=some (.int .i64 l.1.area)/\W.cell? ⟨b,off+k*8+1,none⟩=some (.int .i64 l.1.kind)/\W.cell? ⟨b,off+k*8+2,none⟩=some (.int .i64 l.1.owner)/\W.cell? ⟨b,off+k*8+3,none⟩=some (.int .i64 l.1.key)/\W.cell? ⟨b,off+k*8+4,none⟩=some (.int .i64 l.1.seq)/\W.cell? ⟨b,off+k*8+5,none⟩=some (l.2)/\W.cell? ⟨b,off+k*8+6,none⟩=some (.int .i64 l.1.cost)/\W.cell? ⟨b,off+k*8+7,none⟩=some (.bool l.1.far)/\W.cell? ⟨b,off+j*8,none⟩=some (.int .i64 p.1.area)/\W.cell? ⟨b,off+j*8+1,none⟩=some (.int .i64 p.1.kind)/\W.cell? ⟨b,off+j*8+2,none⟩=some (.int .i64 p.1.owner)/\W.cell? ⟨b,off+j*8+3,none⟩=some (.int .i64 p.1.key)/\W.cell? ⟨b,off+j*8+4,none⟩=some (.int .i64 p.1.seq)/\W.cell? ⟨b,off+j*8+5,none⟩=some (p.2)/\W.cell? ⟨b,off+j*8+6,none⟩=some (.int .i64 p.1.cost)/\W.cell? ⟨b,off+j*8+7,none⟩=some (.bool p.1.far))) (by kernel_rfl) 23 rfl ⟨c0,c1,c2,c3,c4,c5,c6,c7,d0,d1,d2,d3,d4,d5,d6,d7⟩ (fun ops hops hHeld=>?_)
     iterate 4
      refine Zar 23 ?_ ?_ ?_ (by rw [hops.out];kernel_rfl) ?_ ?_ (by assumption) ?_
      rotate_left 2
      ·rw [hops.out];simp only [getS,Nat.reduceSub,Nat.reduceAdd];rfl
      ·intro W hW;(try dsimp only at hW);go_simp <;> with_reducible rfl
      ·exact fun _ _ _=>id
      try simp only [putS]
     refine Zao 4 (oi:=?_) ?_ (by rw [hops.out];kernel_rfl) ?_ ?_
     rotate_left 1
     ·rw [hops.out];simp only [getS];rfl
     ·rw [hops.out];kernel_rfl
     intro K hK
     go_simp
     refine (HOK.out _ hnd).mono ?_
     rintro e w1 ⟨rfl,b1⟩;have hSn:_/\_:=(show ((fun W=>W.cell? ⟨b,off+k*8,none⟩=some (.int .i64 l.1.area)/\W.cell? ⟨b,off+k*8+1,none⟩=some (.int .i64 l.1.kind)/\W.cell? ⟨b,off+k*8+2,none⟩=some (.int .i64 l.1.owner)/\W.cell? ⟨b,off+k*8+3,none⟩=some (.int .i64 l.1.key)/\W.cell? ⟨b,off+k*8+4,none⟩=some (.int .i64 l.1.seq)/\W.cell? ⟨b,off+k*8+5,none⟩=some (l.2)/\W.cell? ⟨b,off+k*8+6,none⟩=some (.int .i64 l.1.cost)/\W.cell? ⟨b,off+k*8+7,none⟩=some (.bool l.1.far)/\W.cell? ⟨b,off+j*8,none⟩=some (.int .i64 p.1.area)/\W.cell? ⟨b,off+j*8+1,none⟩=some (.int .i64 p.1.kind)/\W.cell? ⟨b,off+j*8+2,none⟩=some (.int .i64 p.1.owner)/\W.cell? ⟨b,off+j*8+3,none⟩=some (.int .i64 p.1.key)/\W.cell? ⟨b,off+j*8+4,none⟩=some (.int .i64 p.1.seq)/\W.cell? ⟨b,off+j*8+5,none⟩=some (p.2)/\W.cell? ⟨b,off+j*8+6,none⟩=some (.int .i64 p.1.cost)/\W.cell? ⟨b,off+j*8+7,none⟩=some (.bool p.1.far))) w1 from by
      obtain⟨m0,m1,m2,m3,m4,m5,m6,m7,n0,n1,n2,n3,n4,n5,n6,n7⟩:=hHeld;refine⟨?_,?_,?_,?_,?_,?_,?_,?_,?_,?_,?_,?_,?_,?_,?_,?_⟩ <;> (refine (b1.cell ?_).trans ?_ <;> assumption))
     refine hK.out _ _ hSn (fun hHeld=>?_)
     clear hK K hSn
     try simp only [putS]
     have hbr:b<w1.heap.size:=Nat.lt_of_lt_of_le hbr b1.size
     iterate 3
      refine Zar 23 ?_ ?_ ?_ (by rw [hops.out];kernel_rfl) ?_ ?_ (by assumption) ?_
      rotate_left 2
      ·rw [hops.out];simp only [getS,Nat.reduceSub,Nat.reduceAdd];rfl
      ·intro W hW;(try dsimp only at hW);go_simp <;> with_reducible rfl
      ·exact fun _ _ _=>id
      try simp only [putS]
     refine ZaS 8 (oi:=?_) (v:=.bool true) ?_ (by rw [hops.out];kernel_rfl) ?_ ?_ ?_ (by assumption) ?_
     rotate_left 1
     ·rw [hops.out];simp only [getS];rfl
     ·rw [hops.out];kernel_rfl
     ·intro W hW;(try dsimp only at hW);go_simp <;> (first | with_reducible rfl | (simp;omega) | omega)
     ·exact fun _ _ _=>id
     try simp only [putS]
     iterate 10
      refine Zar 23 ?_ ?_ ?_ (by rw [hops.out];kernel_rfl) ?_ ?_ (by assumption) ?_
      rotate_left 2
      ·rw [hops.out];simp only [getS,Nat.reduceSub,Nat.reduceAdd];rfl
      ·intro W hW;(try dsimp only at hW);go_simp <;> with_reducible rfl
      ·exact fun _ _ _=>id
      try simp only [putS]
     refine Zao 19 (oi:=?_) ?_ (by rw [hops.out];kernel_rfl) ?_ ?_
     rotate_left 1
     ·rw [hops.out];simp only [getS];rfl
     ·rw [hops.out];kernel_rfl
     intro K hK
     go_simp
     refine (HBF.out _).mono ?_
     rintro e w2 ⟨rfl,b2⟩;have hSn:_/\_:=(show ((fun W=>W.cell? ⟨b,off+k*8,none⟩=some (.int .i64 l.1.area)/\W.cell? ⟨b,off+k*8+1,none⟩=some (.int .i64 l.1.kind)/\W.cell? ⟨b,off+k*8+2,none⟩=some (.int .i64 l.1.owner)/\W.cell? ⟨b,off+k*8+3,none⟩=some (.int .i64 l.1.key)/\W.cell? ⟨b,off+k*8+4,none⟩=some (.int .i64 l.1.seq)/\W.cell? ⟨b,off+k*8+5,none⟩=some (l.2)/\W.cell? ⟨b,off+k*8+6,none⟩=some (.int .i64 l.1.cost)/\W.cell? ⟨b,off+k*8+7,none⟩=some (.bool l.1.far)/\W.cell? ⟨b,off+j*8,none⟩=some (.int .i64 p.1.area)/\W.cell? ⟨b,off+j*8+1,none⟩=some (.int .i64 p.1.kind)/\W.cell? ⟨b,off+j*8+2,none⟩=some (.int .i64 p.1.owner)/\W.cell? ⟨b,off+j*8+3,none⟩=some (.int .i64 p.1.key)/\W.cell? ⟨b,off+j*8+4,none⟩=some (.int .i64 p.1.seq)/\W.cell? ⟨b,off+j*8+5,none⟩=some (p.2)/\W.cell? ⟨b,off+j*8+6,none⟩=some (.int .i64 p.1.cost)/\W.cell? ⟨b,off+j*8+7,none⟩=some (.bool p.1.far))) w2 from by
      obtain⟨m0,m1,m2,m3,m4,m5,m6,m7,n0,n1,n2,n3,n4,n5,n6,n7⟩:=hHeld;refine⟨?_,?_,?_,?_,?_,?_,?_,?_,?_,?_,?_,?_,?_,?_,?_,?_⟩ <;> (refine (b2.cell ?_).trans ?_ <;> assumption))
     refine hK.out _ _ hSn (fun hHeld=>?_)
     clear hK K hSn
     try simp only [putS]
     iterate 3
      refine Zar 23 ?_ ?_ ?_ (by rw [hops.out];kernel_rfl) ?_ ?_ (by assumption) ?_
      rotate_left 2
      ·rw [hops.out];simp only [getS,Nat.reduceSub,Nat.reduceAdd];rfl
      ·intro W hW;(try dsimp only at hW);go_simp <;> with_reducible rfl
      ·exact fun _ _ _=>id
      try simp only [putS]
     refine wpAnyH_done (by rw [hops.out];kernel_rfl) ?_ _
     clear hops ops
     go_wp2
     exact⟨⟨k+1,by omega,by go_num,ZaE HALL.out HAT1.out,ZaE HASC.out HAT2.out,(hnd.trans (b1.mono hsz)).trans (b2.mono (by have:=b1.size;have:wr.drew.heap.size=wr.heap.size:=rfl;omega))⟩,by simp [intOf];omega⟩
  ·have e1:ZbO ZbH (fsts ps)=true:=Zbl fun i hi=>HALL.out i (by have:=HFL.out;omega)
   have e3:ascB ordR (fsts ps)=true:=Zbl fun i hi=>HASC.out i (by have:=HFL.out;omega)
   have e2:ZaJ (fsts ps)=true:=by
    unfold ZaJ;rw [e1,e3,decide_eq_true (by have:=HFL.out;omega)]
    rfl
   have HE:=hide e2;clear e1 e2 e3
   go_wp2
   go_ret
   exact⟨Zag HE.out,hnx⟩
theorem Zkw (v1 v2 v3 v4:Value)(x:SelfD)(ps:List RP)(w:World)(ht:totS x ps<=1048576)(hv:SelfIn w v1 v2 v3 v4 x ps w.heap.size):
  Calls Tryz.prog 18 #[Zfp x v1 v2 v3 v4] w fun e w'=>e=.returned (.bool (Zcw x ps))/\Below w.heap.size w w':=by
 obtain⟨⟨a1,c1,rfl⟩,⟨a2,c2,rfl⟩,⟨a3,c3,rfl⟩,⟨a4,c4,rfl⟩⟩:=hv.shapes;have hlL:x.net.ls.length<=1048576:=by unfold totS at ht;omega
 have hlT:x.net.ts.length<=1048576:=by unfold totS at ht;omega
 have hlH:x.heard.length<=1048576:=by unfold totS at ht;omega
 have hlR:tot ps<=1048576:=by unfold totS at ht;omega
 have HX:=hide hv;clear hv ht;have BA:Below w.heap.size w (w.alloc (.cells #[.int .i64 x.id,.int .i64 x.boot,.int .i64 x.net.n,.slice a1 x.net.ls.length c1,.slice a2 x.net.ts.length c2,.slice a3 x.heard.length c3,.slice a4 ps.length c4] 41)):=(Below.refl _ _).alloc (Nat.le_refl _) _;have g0:=heap_alloc_new w (.cells #[.int .i64 x.id,.int .i64 x.boot,.int .i64 x.net.n,.slice a1 x.net.ls.length c1,.slice a2 x.net.ts.length c2,.slice a3 x.heard.length c3,.slice a4 ps.length c4] 41);obtain⟨r1,h1⟩:∃ r,r=Zbq x.net:=⟨_,rfl⟩;obtain⟨r2,h2⟩:∃ r,r=inB x.id 1 x.net.n:=⟨_,rfl⟩;obtain⟨r3,h3⟩:∃ r,r=inB x.boot 0 90:=⟨_,rfl⟩;obtain⟨r4,h4⟩:∃ r,r=Zc8 x.net.ls x.id x.heard:=⟨_,rfl⟩;obtain⟨r5,h5⟩:∃ r,r=ZaJ (fsts ps):=⟨_,rfl⟩;have HS:=hide (show Zcw x ps=(r1&&(r2&&(r3&&(r4&&r5)))) by unfold Zcw;rw [h1,h2,h3,h4,h5])
 rw [HS.out];have HN:=hide (Zmj _ x.net (w.alloc (.cells #[.int .i64 x.id,.int .i64 x.boot,.int .i64 x.net.n,.slice a1 x.net.ls.length c1,.slice a2 x.net.ts.length c2,.slice a3 x.heard.length c3,.slice a4 ps.length c4] 41)) hlL hlT (HX.out.then BA).net);have HI1:=hide (ZbC x.id 1 x.net.n);have HI2:=hide (ZbC x.boot 0 90);have HHD:=hide (fun W (hb:Below w.heap.size w W) (hn:r1=true)=>Zmh _ _ _ _ x ps W hlL hlH (HX.out.then hb))
 have HST:=hide (fun W (hb:Below w.heap.size w W)=>Zc0 _ ps W hlR (HX.out.then hb).store)
 have HHE:=hide (show r1=true->Zdr x.net.ls x.id x.heard=r4 from fun hn=>by rw [h4];exact ZlH (by rw [<-h1];exact hn))
 rw [<-h1] at HN;rw [<-h2] at HI1;rw [<-h3] at HI2
 skip
 rw [<-h5] at HST;have G0:=hide g0;clear h1 h2 h3 h4 h5 HS g0
 go_enter Tryz.func18,Tryz.ntmps18
 go_wp2_with fail
 obtain⟨w0,hw0⟩:∃ W,W=w.alloc (.cells #[.int .i64 x.id,.int .i64 x.boot,.int .i64 x.net.n,.slice a1 x.net.ls.length c1,.slice a2 x.net.ts.length c2,.slice a3 x.heard.length c3,.slice a4 ps.length c4] 41):=⟨_,rfl⟩;rw [<-hw0] at BA G0 HN |-;clear hw0;refine HN.out.mono ?_
 rintro e w1 ⟨rfl,b1⟩;have g1:=(b1.block _ (Zab G0.out)).trans G0.out;have B1:Below w.heap.size w w1:=BA.trans (b1.mono BA.size);cases r1
 ·go_wp2
  go_ret
  exact⟨rfl,B1⟩
 have s0:=Zaa g1 0;have s1:=Zaa g1 1;have s2:=Zaa g1 2;have s3:=Zaa g1 3;have s4:=Zaa g1 4;have s5:=Zaa g1 5;have s6:=Zaa g1 6;simp at s0 s1 s2 s3 s4 s5 s6
 have G1:=hide g1;clear g1 b1 HN
 go_wp2_with fail
 refine (HI1.out _).mono ?_
 rintro e w2 ⟨rfl,rfl⟩;cases r2
 ·go_wp2
  go_ret
  exact⟨rfl,B1⟩
 go_wp2_with fail
 refine (HI2.out _).mono ?_
 rintro e w2 ⟨rfl,rfl⟩;cases r3
 ·go_wp2
  go_ret
  exact⟨rfl,B1⟩
 go_wp2_with fail
 refine (HHD.out _ B1 (by simp)).mono ?_
 rintro e w3 ⟨rfl,b3⟩;rw [HHE.out (by simp)]
 have g3:=(b3.block _ (Zab G1.out)).trans G1.out;have B3:Below w.heap.size w w3:=B1.trans (b3.mono B1.size);cases r4
 ·clear s0 s1 s2 s3 s4 s5 s6
  go_wp2
  go_ret
  exact⟨rfl,B3⟩
 clear s0 s1 s2 s3 s4 s5 s6;have s6:=Zaa g3 6;simp at s6
 clear g3 b3
 go_wp2_with fail
 refine (HST.out _ B3).mono ?_
 rintro e w4 ⟨rfl,b4⟩;have B4:Below w.heap.size w w4:=B3.trans (b4.mono B3.size);clear b4
 go_wp2
 go_ret
 exact⟨by simp,B4⟩
end Go.Proofs.YtnndlmodjkplnaaGreatDoor
