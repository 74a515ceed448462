/-
  AddW IAsc IEnds HeapK BsW
-/
import Derived.Test.YtadokhjefnkajaaGreatIe13
import Derived.Test.YtadokhjefnkajaaGreatIe3
import Derived.Test.YtadokhjefnkajaaGreatIe5
import Derived.Test.YtadokhjefnkajaaGreatIe4
import Derived.Test.YtadokhjefnkajaaGreatIe11
import Derived.Maps.AppendAt
import Derived.Test.YtadokhjefnkajaaGreatIe1
import Derived.Lib.OwnBridge
import Derived.Sort.OwnSortedInts
import Derived.Handy
namespace Go.Proofs.YtadokhjefnkajaaGreat
open Go.RowKit
set_option linter.unusedSimpArgs false
set_option linter.unusedVariables false
set_option maxRecDepth 100000
set_option maxHeartbeats 8000000
theorem Zo8 {l:List Int}{k:Nat}{z y:Int}(h:l[k]? = some y)(hn:z ∉ l.take k)(hz:z≠y):z ∉ l.take (k+1):=by
 obtain⟨hk,e⟩:=List.getElem?_eq_some_iff.1 h;rw [List.take_succ_eq_append_getElem hk,e];simp [hn,hz]
theorem ZnB (v:Value)(l:List Int)(z:Int)(w:World)(hn:l.length<=1048576)(hv:ZaM w v l w.heap.size):
  Calls Tryz.prog 255 #[v,.int .i64 z] w fun e w'=>e=.returned (.bool (decide (z∈l)))/\Below w.heap.size w w':=by
 obtain⟨R,hR⟩:∃ R,R=decide (z∈l):=⟨_,rfl⟩;rw [<-hR];have HR:=hide hR;clear hR;obtain⟨a,cap,rfl⟩:=hv.shape;have HV:=hide hv;clear hv
 go_enter Tryz.func255,Tryz.ntmps255
 go_wp2
 go_loopw [5] (fun i wr=>∃ k:Nat,k<=l.length/\i=.int .i64 k/\Hid (z ∉ l.take k)/\Below w.heap.size w wr) (fun i _=>l.length-(intOf i).toNat)
 case atStart=>exact ⟨0,by omega,rfl,hide (by simp),Below.refl _ _⟩
 case round=>
  obtain⟨k,hk,rfl,HNO,hnx⟩:=hrel;by_cases hlt:k<l.length
  ·obtain ⟨y,hy⟩:∃ y,l[k]? = some y:=⟨l[k],List.getElem?_eq_getElem hlt⟩
   obtain⟨b,off,cap',hve,hbb,c0⟩:=HV.out.cell k y hy;cases hve
   rw [<-hnx.cell (p:=⟨b,off+k,none⟩) hbb] at c0;have hki:(0:Int)<=(k:Int):=by omega
   have hkj:(k:Int)<(l.length:Int):=by omega
   by_cases hzy:z=y
   ·subst hzy
    have HF:=hide (show R=true by rw [HR.out];exact decide_eq_true (List.mem_of_getElem? hy))
    clear hy
    go_wp2
    (try go_quiet (fail))
    (try go_wp2)
    go_ret
    exact⟨Zai HF.out,by first | exact hnx | exact hnx.trans ⟨rfl,rfl,rfl,Nat.le_refl _,fun _ _=>rfl⟩⟩
   ·have HN:=hide (Zo8 hy HNO.out hzy)
    have hyz:¬y=z:=fun e=>hzy e.symm
    have hd:(y==z)=false:=by simpa using hyz
    clear hy
    go_wp2
    (try go_quiet (fail))
    (try go_wp2)
    go_roundw
    case rel=>exact ⟨k+1,by omega,by go_num,HN,by first | exact hnx | exact hnx.trans ⟨rfl,rfl,rfl,Nat.le_refl _,fun _ _=>rfl⟩⟩
    case measure=>simp [intOf];omega
  ·have HF:=hide (show R=false by
    rw [HR.out];have h:=HNO.out;rw [List.take_of_length_le (by omega)] at h
    exact decide_eq_false h)
   go_wp2
   go_ret
   exact⟨Zai HF.out,hnx⟩
def addT (a b:List Int):Nat->List Int
 | 0=>[]
 | k+1=>addT a b k++(if (k:Int)+1∈a\/(k:Int)+1∈b then [(k:Int)+1] else [])
def addL (a b:List Int):List Int:=addT a b 6
theorem Zhq (a b:List Int)(k:Nat):(addT a b k).length<=k:=by
 induction k with
 | zero=>simp [addT]
 | succ k ih=>
  unfold addT;rw [List.length_append]
  split <;> simp <;> omega
theorem Zdo (v1 v2:Value)(xs ys:List Int)(w:World)(hx:xs.length<=1048576)(hy:ys.length<=1048576)(h1:ZaM w v1 xs w.heap.size)(h2:ZaM w v2 ys w.heap.size):
  Calls Tryz.prog 227 #[v1,v2] w fun e w'=>∃ x,e=.returned x/\w'.ownsRow w.heap.size 3 1 x (addL xs ys).length (flat intE (addL xs ys))/\Below w.heap.size w w':=by
 obtain⟨a1,c1,rfl⟩:=h1.shape;obtain⟨a2,c2,rfl⟩:=h2.shape;have HI1:=hide (fun z W (hb:Below w.heap.size w W)=>ZnB (.slice a1 xs.length c1) xs z W hx ((ZaE.later h1 hb (Nat.le_refl _)).more hb.size))
 have HI2:=hide (fun z W (hb:Below w.heap.size w W)=>ZnB (.slice a2 ys.length c2) ys z W hy ((ZaE.later h2 hb (Nat.le_refl _)).more hb.size))
 have O0:=hide (Zc0 w w.heap.size w.heap.size rfl (Nat.le_refl _));have B0:Below w.heap.size w (w.alloc (.cells #[] 3)):=(Below.refl _ _).alloc (Nat.le_refl _) _;clear h1 h2
 go_enter Tryz.func227,Tryz.ntmps227
 go_wp2
 generalize w.alloc (.cells #[] 3)=w0 at *
 go_loopw [6,5] (fun i o wr=>∃ (k:Nat) (l:List Int) (u:Value),k<=6/\i=.int .i64 ((k:Int)+1)/\o=u/\Hid (l=addT xs ys k)/\wr.ownsRow w.heap.size 3 1 u l.length (flat intE l)/\Below w.heap.size w wr) (fun i _ _=>8-(intOf i).toNat)
 case atStart=>exact ⟨0,[],_,by omega,rfl,rfl,hide rfl,O0.out,B0⟩
 case round=>
  obtain⟨k,l,u,hk,rfl,rfl,HL,hown,hnx⟩:=hrel;obtain⟨ua,uc,rfl⟩:=Zac hown;have hsz:=hnx.size;have hll:l.length<=6:=by rw [HL.out];have:=Zhq xs ys k;omega
  have OW:=hide hown;clear hown;by_cases hlt:k<6
  ·have hk6:(k:Int)+1<=6:=by omega
   have hw1:IntKind.i64.wrap ((k:Int)+1+1)=((k+1:Nat):Int)+1:=by rw [ZaK _ (by omega) (by omega)];omega
   obtain⟨P,hP⟩:∃ P,P=decide ((k:Int)+1∈xs):=⟨_,rfl⟩;obtain⟨Q,hQ⟩:∃ Q,Q=decide ((k:Int)+1∈ys):=⟨_,rfl⟩;have H1:=HI1.out ((k:Int)+1);have H2:=HI2.out ((k:Int)+1);rw [<-hP] at H1;rw [<-hQ] at H2;have J1:=hide H1;have J2:=hide H2;have HST:=hide (show addT xs ys (k+1)=l++(if P=true\/Q=true then [(k:Int)+1] else []) by
    rw [HL.out,hP,hQ];simp [addT])
   clear H1 H2 hP hQ HI1 HI2;cases P
   ·go_wp2_with fail
    refine (J1.out _ hnx).mono ?_
    rintro e w2 ⟨rfl,b2⟩;have b2s:=b2.size
    go_wp2_with fail
    refine (J2.out _ (hnx.trans (b2.mono hsz))).mono ?_
    rintro e w3 ⟨rfl,b3⟩;have b3s:=b3.size;have B3:Below wr.heap.size wr w3:=b2.trans (b3.mono b2s);clear b2 b3;cases Q
    ·have HN:=hide (show l=addT xs ys (k+1) by rw [HST.out];simp)
     have OW3:=hide (Zae OW.out B3 (Nat.le_refl _))
     go_wp2
     go_roundw
     case rel=>exact ⟨k+1,l,_,by omega,rfl,rfl,HN,OW3.out,hnx.trans (B3.mono hsz)⟩
     case measure=>simp [intOf];omega
    ·have HN:=hide (show l++[(k:Int)+1]=addT xs ys (k+1) by rw [HST.out];simp)
     go_wp2_with (first
      | (at_builtin;refine ZaL ZdV (by omega) (by omega) _ rfl _ _ 28 rfl w.heap.size 3 Tryz.underlying28 (.int .i64 0) rfl Tryz.info3 _ l ((k:Int)+1) (ZcY _) rfl ((Zae OW.out B3 (Nat.le_refl _)).alloc _) ⟨w3.heap.size,0,none⟩ 1 rfl (Zay (cs:=intE ((k:Int)+1))) (by omega) (by simp;omega) ?_))
     intro v' w4 hown' hgrow;obtain⟨va,vc,rfl⟩:=Zac hown';have B4:Below w.heap.size w w4:=((hnx.trans (B3.mono hsz)).alloc (by omega) _).grown hgrow (by simp;omega) (fun j hj=>(OW.out.lt j hj).1)
     have OW4:=hide hown';clear hown' hgrow
     go_wp2
     go_roundw
     case rel=>exact ⟨k+1,l++[(k:Int)+1],_,by omega,rfl,rfl,HN,(by simpa using OW4.out),B4⟩
     case measure=>simp [intOf];omega
   ·have HN:=hide (show l++[(k:Int)+1]=addT xs ys (k+1) by rw [HST.out];simp)
    go_wp2_with fail
    refine (J1.out _ hnx).mono ?_
    rintro e w3 ⟨rfl,B3⟩;have b3s:=B3.size
    go_wp2_with (first
     | (at_builtin;refine ZaL ZdV (by omega) (by omega) _ rfl _ _ 28 rfl w.heap.size 3 Tryz.underlying28 (.int .i64 0) rfl Tryz.info3 _ l ((k:Int)+1) (ZcY _) rfl ((Zae OW.out B3 (Nat.le_refl _)).alloc _) ⟨w3.heap.size,0,none⟩ 1 rfl (Zay (cs:=intE ((k:Int)+1))) (by omega) (by simp;omega) ?_))
    intro v' w4 hown' hgrow;obtain⟨va,vc,rfl⟩:=Zac hown';have B4:Below w.heap.size w w4:=((hnx.trans (B3.mono hsz)).alloc (by omega) _).grown hgrow (by simp;omega) (fun j hj=>(OW.out.lt j hj).1)
    have OW4:=hide hown';clear hown' hgrow
    go_wp2
    go_roundw
    case rel=>exact ⟨k+1,l++[(k:Int)+1],_,by omega,rfl,rfl,HN,(by simpa using OW4.out),B4⟩
    case measure=>simp [intOf];omega
  ·have hk6:¬(k:Int)+1<=6:=by omega
   have KN:=hide (show l=addL xs ys by rw [HL.out,show k=6 by omega];rfl)
   go_wp2
   go_ret
   have h:=OW.out;rw [KN.out] at h;exact⟨_,by rw [KN.out];rfl,h,hnx⟩
theorem Zn1 (v:Value)(ls:List Lk)(w:World)(hls:ls.length<=1048576)(hv:ZaS w v ls w.heap.size):
  Calls Tryz.prog 199 #[v,.func (.func 200) #[] #[]] w fun e w'=>e=.returned (.bool (ascB ordL ls))/\Below w.heap.size w w':=by
 obtain⟨a,cap,rfl⟩:=hv.shape;have HV:=hide hv;clear hv
 go_enter Tryz.func199,Tryz.ntmps199
 go_wp2
 go_loopw [5] (fun i wr=>∃ k:Nat,1<=k/\(k<=ls.length\/k=1)/\i=.int .i64 k/\(∀ j,j<k->Zb0 ordL ls j=true)/\Below w.heap.size w wr) (fun i _=>ls.length+1-(intOf i).toNat)
 case atStart=>exact ⟨1,by omega,by omega,rfl,fun j hj=>by (obtain rfl:j=0:=by omega);rfl,Below.refl _ _⟩
 case round=>
  obtain⟨k,hk1,hk,rfl,hno,hb⟩:=hrel;have HNO:=hide hno;clear hno;by_cases hlt:k<ls.length
  ·obtain ⟨l,hl⟩:∃ l,ls[k]? = some l:=⟨ls[k],List.getElem?_eq_getElem hlt⟩
   obtain⟨j,hj⟩:∃ j,k=j+1:=⟨k-1,by omega⟩
   obtain⟨p,hp⟩:∃ p,ls[j]? = some p:=⟨ls[j],List.getElem?_eq_getElem (by omega)⟩
   obtain⟨b,off,cap',hve,hbb,c0,c1,c2,c3⟩:=HV.out.cells k l hl;cases hve
   obtain⟨b',off',cap2,hve2,hbb2,d0,d1,d2,d3⟩:=HV.out.cells j p hp;cases hve2
   rw [<-hb.cell (p:=⟨b,off+k*4,none⟩) hbb] at c0;rw [<-hb.cell (p:=⟨b,off+k*4+1,none⟩) hbb] at c1;rw [<-hb.cell (p:=⟨b,off+k*4+2,none⟩) hbb] at c2;rw [<-hb.cell (p:=⟨b,off+k*4+3,none⟩) hbb] at c3;rw [<-hb.cell (p:=⟨b,off+j*4,none⟩) hbb] at d0;rw [<-hb.cell (p:=⟨b,off+j*4+1,none⟩) hbb] at d1;rw [<-hb.cell (p:=⟨b,off+j*4+2,none⟩) hbb] at d2;rw [<-hb.cell (p:=⟨b,off+j*4+3,none⟩) hbb] at d3;have hat:Zb0 ordL ls k=decide (ordL p l<0):=by rw [hj];exact ZbW hp (by rw [<-hj];exact hl)
   have hzr:=hb.size;have hbr:b<wr.heap.size:=by omega
   have hki:(0:Int)<=(k:Int):=by omega
   have hkj:(k:Int)<(ls.length:Int):=by omega
   have hj1:(k:Int)-1=(j:Int):=by omega
   have hj2:(0:Int)<=(j:Int):=by omega
   have hj3:(j:Int)<(ls.length:Int):=by omega
   have hj5:IntKind.i64.wrap (j:Int)=(j:Int):=ZaK _ (by omega) (by omega)
   have HORD:=hide (ZoP p l);have HAT:=hide hat;have HJ:=hide hj;clear hl hp hat hj;obtain⟨x,hx⟩:∃ x,x=ordL p l:=⟨_,rfl⟩;rw [<-hx] at HORD HAT;clear hx;unfold lkV at HORD;by_cases hx0:x<0
   ·have hx1:¬(0:Int)<=x:=by omega
    rw [decide_eq_true hx0] at HAT
    go_wp2
    go_region_held3 (fun W=>W.cell? ⟨b,off+k*4,none⟩=some (.int .i64 l.a)/\W.cell? ⟨b,off+k*4+1,none⟩=some (.int .i64 l.b)/\W.cell? ⟨b,off+k*4+2,none⟩=some (.int .i64 l.c)/\W.cell? ⟨b,off+k*4+3,none⟩=some (.int .i64 l.r)/\W.cell? ⟨b,off+j*4,none⟩=some (.int .i64 p.a)/\W.cell? ⟨b,off+j*4+1,none⟩=some (.int .i64 p.b)/\W.cell? ⟨b,off+j*4+2,none⟩=some (.int .i64 p.c)/\W.cell? ⟨b,off+j*4+3,none⟩=some (.int .i64 p.r)) (first | go_keep | (refine ⟨?_,?_,?_,?_,?_,?_,?_,?_⟩ <;> (rw [hbc.cell (by assumption)];assumption))) (first | (go_at_call 200;refine (HORD.out _).mono ?_;rintro e w2 ⟨rfl,hbc⟩))
    go_wp2
    exact⟨⟨k+1,by omega,by omega,by go_num,ZaO HNO.out HAT.out,hb.drew.trans (hbc.mono hb.size)⟩,by simp [intOf];omega⟩
   ·have hx1:(0:Int)<=x:=by omega
    rw [decide_eq_false hx0] at HAT;have hf:ascB ordL ls=false:=ZaT hlt HAT.out;have HF:=hide hf;clear hf
    go_wp2
    go_region_held3 (fun W=>W.cell? ⟨b,off+k*4,none⟩=some (.int .i64 l.a)/\W.cell? ⟨b,off+k*4+1,none⟩=some (.int .i64 l.b)/\W.cell? ⟨b,off+k*4+2,none⟩=some (.int .i64 l.c)/\W.cell? ⟨b,off+k*4+3,none⟩=some (.int .i64 l.r)/\W.cell? ⟨b,off+j*4,none⟩=some (.int .i64 p.a)/\W.cell? ⟨b,off+j*4+1,none⟩=some (.int .i64 p.b)/\W.cell? ⟨b,off+j*4+2,none⟩=some (.int .i64 p.c)/\W.cell? ⟨b,off+j*4+3,none⟩=some (.int .i64 p.r)) (first | go_keep | (refine ⟨?_,?_,?_,?_,?_,?_,?_,?_⟩ <;> (rw [hbc.cell (by assumption)];assumption))) (first | (go_at_call 200;refine (HORD.out _).mono ?_;rintro e w2 ⟨rfl,hbc⟩))
    go_wp2
    go_ret
    exact⟨Zai HF.out,hb.drew.trans (hbc.mono hb.size)⟩
  ·have hall:ascB ordL ls=true:=Za9 fun i hi=>HNO.out i (by omega)
   have HA:=hide hall;clear hall
   go_wp2
   go_ret
   exact⟨Zai HA.out,hb⟩
theorem Zn2 (v:Value)(ls:List Th)(w:World)(hls:ls.length<=1048576)(hv:ZaV w v ls w.heap.size):
  Calls Tryz.prog 201 #[v,.func (.func 202) #[] #[]] w fun e w'=>e=.returned (.bool (ascB ordT ls))/\Below w.heap.size w w':=by
 obtain⟨a,cap,rfl⟩:=hv.shape;have HV:=hide hv;clear hv
 go_enter Tryz.func201,Tryz.ntmps201
 go_wp2
 go_loopw [5] (fun i wr=>∃ k:Nat,1<=k/\(k<=ls.length\/k=1)/\i=.int .i64 k/\(∀ j,j<k->Zb0 ordT ls j=true)/\Below w.heap.size w wr) (fun i _=>ls.length+1-(intOf i).toNat)
 case atStart=>exact ⟨1,by omega,by omega,rfl,fun j hj=>by (obtain rfl:j=0:=by omega);rfl,Below.refl _ _⟩
 case round=>
  obtain⟨k,hk1,hk,rfl,hno,hb⟩:=hrel;have HNO:=hide hno;clear hno;by_cases hlt:k<ls.length
  ·obtain ⟨l,hl⟩:∃ l,ls[k]? = some l:=⟨ls[k],List.getElem?_eq_getElem hlt⟩
   obtain⟨j,hj⟩:∃ j,k=j+1:=⟨k-1,by omega⟩
   obtain⟨p,hp⟩:∃ p,ls[j]? = some p:=⟨ls[j],List.getElem?_eq_getElem (by omega)⟩
   obtain⟨b,off,cap',hve,hbb,c0,c1,c2,c3⟩:=HV.out.cells k l hl;cases hve
   obtain⟨b',off',cap2,hve2,hbb2,d0,d1,d2,d3⟩:=HV.out.cells j p hp;cases hve2
   rw [<-hb.cell (p:=⟨b,off+k*4,none⟩) hbb] at c0;rw [<-hb.cell (p:=⟨b,off+k*4+1,none⟩) hbb] at c1;rw [<-hb.cell (p:=⟨b,off+k*4+2,none⟩) hbb] at c2;rw [<-hb.cell (p:=⟨b,off+k*4+3,none⟩) hbb] at c3;rw [<-hb.cell (p:=⟨b,off+j*4,none⟩) hbb] at d0;rw [<-hb.cell (p:=⟨b,off+j*4+1,none⟩) hbb] at d1;rw [<-hb.cell (p:=⟨b,off+j*4+2,none⟩) hbb] at d2;rw [<-hb.cell (p:=⟨b,off+j*4+3,none⟩) hbb] at d3;have hat:Zb0 ordT ls k=decide (ordT p l<0):=by rw [hj];exact ZbW hp (by rw [<-hj];exact hl)
   have hzr:=hb.size;have hbr:b<wr.heap.size:=by omega
   have hki:(0:Int)<=(k:Int):=by omega
   have hkj:(k:Int)<(ls.length:Int):=by omega
   have hj1:(k:Int)-1=(j:Int):=by omega
   have hj2:(0:Int)<=(j:Int):=by omega
   have hj3:(j:Int)<(ls.length:Int):=by omega
   have hj5:IntKind.i64.wrap (j:Int)=(j:Int):=ZaK _ (by omega) (by omega)
   have HORD:=hide (ZoQ p l);have HAT:=hide hat;have HJ:=hide hj;clear hl hp hat hj;obtain⟨x,hx⟩:∃ x,x=ordT p l:=⟨_,rfl⟩;rw [<-hx] at HORD HAT;clear hx;unfold thV at HORD;by_cases hx0:x<0
   ·have hx1:¬(0:Int)<=x:=by omega
    rw [decide_eq_true hx0] at HAT
    go_wp2
    go_region_held3 (fun W=>W.cell? ⟨b,off+k*4,none⟩=some (.int .i64 l.o)/\W.cell? ⟨b,off+k*4+1,none⟩=some (.int .i64 l.k)/\W.cell? ⟨b,off+k*4+2,none⟩=some (.int .i64 l.c)/\W.cell? ⟨b,off+k*4+3,none⟩=some (.bool l.f)/\W.cell? ⟨b,off+j*4,none⟩=some (.int .i64 p.o)/\W.cell? ⟨b,off+j*4+1,none⟩=some (.int .i64 p.k)/\W.cell? ⟨b,off+j*4+2,none⟩=some (.int .i64 p.c)/\W.cell? ⟨b,off+j*4+3,none⟩=some (.bool p.f)) (first | go_keep | (refine ⟨?_,?_,?_,?_,?_,?_,?_,?_⟩ <;> (rw [hbc.cell (by assumption)];assumption))) (first | (go_at_call 202;refine (HORD.out _).mono ?_;rintro e w2 ⟨rfl,hbc⟩))
    go_wp2
    exact⟨⟨k+1,by omega,by omega,by go_num,ZaO HNO.out HAT.out,hb.drew.trans (hbc.mono hb.size)⟩,by simp [intOf];omega⟩
   ·have hx1:(0:Int)<=x:=by omega
    rw [decide_eq_false hx0] at HAT;have hf:ascB ordT ls=false:=ZaT hlt HAT.out;have HF:=hide hf;clear hf
    go_wp2
    go_region_held3 (fun W=>W.cell? ⟨b,off+k*4,none⟩=some (.int .i64 l.o)/\W.cell? ⟨b,off+k*4+1,none⟩=some (.int .i64 l.k)/\W.cell? ⟨b,off+k*4+2,none⟩=some (.int .i64 l.c)/\W.cell? ⟨b,off+k*4+3,none⟩=some (.bool l.f)/\W.cell? ⟨b,off+j*4,none⟩=some (.int .i64 p.o)/\W.cell? ⟨b,off+j*4+1,none⟩=some (.int .i64 p.k)/\W.cell? ⟨b,off+j*4+2,none⟩=some (.int .i64 p.c)/\W.cell? ⟨b,off+j*4+3,none⟩=some (.bool p.f)) (first | go_keep | (refine ⟨?_,?_,?_,?_,?_,?_,?_,?_⟩ <;> (rw [hbc.cell (by assumption)];assumption))) (first | (go_at_call 202;refine (HORD.out _).mono ?_;rintro e w2 ⟨rfl,hbc⟩))
    go_wp2
    go_ret
    exact⟨Zai HF.out,hb.drew.trans (hbc.mono hb.size)⟩
  ·have hall:ascB ordT ls=true:=Za9 fun i hi=>HNO.out i (by omega)
   have HA:=hide hall;clear hall
   go_wp2
   go_ret
   exact⟨Zai HA.out,hb⟩
theorem Znb (w:World)(o:Obj)(z:Int)(t:TypeId):((w.alloc o).alloc (.cells #[.int .i64 z] t)).cell? ((⟨w.heap.size+1,0,none⟩:Addr).add 0)=some (.int .i64 z):=by
 have hs:(w.alloc o).heap.size=w.heap.size+1:=by simp
 rw [add_zero', <-hs];exact Zaa (heap_alloc_new (w.alloc o) (.cells #[.int .i64 z] t)) 0
def hit1 (f r:Int)(l:Lk):List Int:=if l.a=f/\l.r=r then [l.b] else []
def hit2 (f r:Int)(l:Lk):List Int:=if l.b=f/\l.r=r then [l.a] else []
def hits (f r:Int)(l:Lk):List Int:=hit1 f r l++hit2 f r l
def gath (ls:List Lk)(f r:Int)(k:Nat):List Int:=(ls.take k).flatMap (hits f r)
theorem ZiJ {ls:List Lk}{f r:Int}{k:Nat}{l:Lk}(h:ls[k]? = some l):gath ls f r (k+1)=gath ls f r k++hit1 f r l++hit2 f r l:=by
 obtain⟨hk,e⟩:=List.getElem?_eq_some_iff.1 h;unfold gath;rw [List.take_succ_eq_append_getElem hk,List.flatMap_append,e];simp [hits]
theorem Zon (f r:Int)(l:Lk):(hits f r l).length<=2:=by
 unfold hits hit1 hit2
 split <;> split <;> simp
theorem Zoi (ls:List Lk)(f r:Int)(k:Nat):(gath ls f r k).length<=2*k:=by
 induction k with
 | zero=>simp [gath]
 | succ k ih=>
  by_cases hk:k<ls.length
  ·have h1:=Zon f r ls[k]
   rw [ZiJ (List.getElem?_eq_getElem hk)];unfold hits at h1;simp only [List.length_append] at h1 |-
   omega
  ·have e:gath ls f r (k+1)=gath ls f r k:=by unfold gath;rw [List.take_of_length_le (by omega),List.take_of_length_le (by omega)]
   rw [e];omega
def Zfz (ls:List Lk)(f r:Int):List Int:=Lib.compact ((gath ls f r ls.length).mergeSort fun x y=>decide (x<=y))
theorem ZmR (n:Value)(v tv:Value)(ls:List Lk)(f r:Int)(w:World)(hls:ls.length<=1048576)(hv:ZaS w v ls w.heap.size):
  Calls Tryz.prog 169 #[.agg #[n,v,tv],.int .i64 f,.int .i64 r] w fun e w'=>∃ x,e=.returned x/\w'.ownsRow w.heap.size 3 1 x (gath ls f r ls.length).length (Za5 (gath ls f r ls.length))/\Below w.heap.size w w':=by
 obtain⟨a,cap,rfl⟩:∃ a cap,v=.slice a ls.length cap:=by obtain ⟨a,cap,h,_⟩:=hv;exact⟨a,cap,h⟩
 have HV:=hide hv;clear hv
 go_enter Tryz.func169,Tryz.ntmps169
 go_wp2
 go_loopw [7,15] (fun u i wr=>∃ k:Nat,k<=ls.length/\i=.int .i64 k/\wr.ownsRow w.heap.size 3 1 u (gath ls f r k).length (Za5 (gath ls f r k))/\Below w.heap.size w wr) (fun _ i _=>ls.length-(intOf i).toNat)
 case atStart=>exact ⟨0,by omega,rfl,⟨by simp [gath,Za5],.inl ⟨rfl,by simp [gath]⟩⟩,(Below.refl _ _).alloc (Nat.le_refl _) _⟩
 case round=>
  obtain⟨k,hk,rfl,hown,hb⟩:=hrel;have hgl:=Zoi ls f r k;by_cases hlt:k<ls.length
  ·obtain ⟨l,hl⟩:∃ l,ls[k]? = some l:=⟨ls[k],List.getElem?_eq_getElem hlt⟩
   obtain⟨b,off,cap',hve,hbb,c0,c1,c2,c3⟩:=HV.out.cells k l hl;cases hve
   rw [<-hb.cell (p:=⟨b,off+k*4,none⟩) hbb] at c0;rw [<-hb.cell (p:=⟨b,off+k*4+1,none⟩) hbb] at c1;rw [<-hb.cell (p:=⟨b,off+k*4+2,none⟩) hbb] at c2;rw [<-hb.cell (p:=⟨b,off+k*4+3,none⟩) hbb] at c3;have HG:=hide (ZiJ (f:=f) (r:=r) hl);have hbo:=ZhC l;clear hl;obtain⟨la,lb,lc,lr⟩:=l;unfold Zmr lkV at hbo;simp only [] at hbo c0 c1 c2 c3
   have HBO:=hide hbo;have OW:=hide hown;clear hbo hown;have hzr:=hb.size;generalize hg:gath ls f r k=g at OW hgl HG
   go_wp2_with fail
   refine (HBO.out _).mono ?_
   rintro e w1 ⟨rfl,b1⟩;have ow1:=Zae (OW.out.alloc _) b1 (Nat.le_refl _);have B1:Below w.heap.size w w1:=(hb.alloc hb.size _).trans (b1.mono (by simp;omega))
   have OW1:=hide ow1;clear b1 ow1 c0 c1 c2 c3 OW
   go_wp2
   go_loopw [7,21] (fun u i wi=>∃ (j:Nat) (h:List Int),j<=2/\i=.int .i64 j/\h=(if j=0 then g else if j=1 then g++hit1 f r ⟨la,lb,lc,lr⟩ else g++hit1 f r ⟨la,lb,lc,lr⟩++hit2 f r ⟨la,lb,lc,lr⟩)/\wi.ownsRow w.heap.size 3 1 u h.length (Za5 h)/\Below w.heap.size w wi) (fun _ i _=>2-(intOf i).toNat)
   case atStart=>exact ⟨0,g,by omega,rfl,rfl,OW1.out,B1⟩
   case round=>
    obtain⟨wz,rfl⟩:∃ wz:World,wz=wr:=⟨_,rfl⟩;clear OW1 B1;obtain⟨j,h,hj,rfl,hh,hown,hb2⟩:=hrel;have hz2:=hb2.size;have hhl:h.length<=2*k+2:=by
     have e1:(hit1 f r ⟨la,lb,lc,lr⟩).length<=1:=by unfold hit1;split <;> simp
     have e2:(hit2 f r ⟨la,lb,lc,lr⟩).length<=1:=by unfold hit2;split <;> simp
     rw [hh]
     split
     ·omega
     ·split <;> simp only [List.length_append] <;> omega
    have HH:=hide hh;have OW:=hide hown;clear hh hown;obtain rfl | rfl | rfl:j=0\/j=1\/j=2:=by omega
    ·have i0:=fun W=>Zgu W (.int .i64 la) (.int .i64 lb) (.int .i64 lc) (.int .i64 lr) (.int .i64 lb) (.int .i64 la) (.int .i64 lc) (.int .i64 lr)
     by_cases hA:la=f/\lr=r
     ·have e1:(la==f)=true:=by simp [hA.1]
      have e2:(lr==r)=true:=by simp [hA.2]
      have hn:h++[lb]=g++hit1 f r ⟨la,lb,lc,lr⟩:=by
       rw [HH.out];simp [hit1,hA]
      have HN:=hide hn;clear hn hA
      go_wp2_with (first
       | (at_builtin;refine Zbj _ rfl _ _ 28 rfl w.heap.size 3 Tryz.underlying28 Tryz.info3 u7 h lb rfl ((OW.out.alloc _).alloc _) ⟨wz.heap.size+1,0,none⟩ 1 rfl (Znb wz _ _ _) (by omega) (by simp;omega) ?_))
      intro v' w5 l' hl' hown' hgrow;have B5:Below w.heap.size w w5:=((hb2.alloc hb2.size _).alloc (by simp;omega) _).grown hgrow (by simp;omega) (fun k hk=>by have:=(OW.out.lt k hk).1;omega)
      have OW5:=hide hown';clear hown' hgrow
      go_wp2
      go_roundw
      case rel=>exact ⟨1,l',by omega,by go_num,by rw [hl'.out,HN.out];rfl,OW5.out,B5⟩
      case measure=>simp [intOf]
     by_cases hB:la=f
     ·have e1:(la==f)=true:=by simp [hB]
      have e2:(lr==r)=false:=by
       have:¬lr=r:=fun e=>hA ⟨hB,e⟩
       simpa using this
      clear hB;have hn:h=g++hit1 f r ⟨la,lb,lc,lr⟩:=by
       rw [HH.out];simp [hit1,hA]
      have HN:=hide hn;clear hn hA
      go_wp2
      go_roundw
      case rel=>exact ⟨1,h,by omega,by go_num,by rw [HN.out];rfl,OW.out.alloc _,hb2.alloc hb2.size _⟩
      case measure=>simp [intOf]
     ·have e1:(la==f)=false:=by simpa using hB
      clear hB;have hn:h=g++hit1 f r ⟨la,lb,lc,lr⟩:=by
       rw [HH.out];simp [hit1,hA]
      have HN:=hide hn;clear hn hA
      go_wp2
      go_roundw
      case rel=>exact ⟨1,h,by omega,by go_num,by rw [HN.out];rfl,OW.out.alloc _,hb2.alloc hb2.size _⟩
      case measure=>simp [intOf]
    ·have i0:=fun W=>Zgv W (.int .i64 la) (.int .i64 lb) (.int .i64 lc) (.int .i64 lr) (.int .i64 lb) (.int .i64 la) (.int .i64 lc) (.int .i64 lr)
     by_cases hA:lb=f/\lr=r
     ·have e1:(lb==f)=true:=by simp [hA.1]
      have e2:(lr==r)=true:=by simp [hA.2]
      have hn:h++[la]=g++hit1 f r ⟨la,lb,lc,lr⟩++hit2 f r ⟨la,lb,lc,lr⟩:=by
       rw [HH.out];simp [hit2,hA]
      have HN:=hide hn;clear hn hA
      go_wp2_with (first
       | (at_builtin;refine Zbj _ rfl _ _ 28 rfl w.heap.size 3 Tryz.underlying28 Tryz.info3 u7 h la rfl ((OW.out.alloc _).alloc _) ⟨wz.heap.size+1,0,none⟩ 1 rfl (Znb wz _ _ _) (by omega) (by simp;omega) ?_))
      intro v' w5 l' hl' hown' hgrow;have B5:Below w.heap.size w w5:=((hb2.alloc hb2.size _).alloc (by simp;omega) _).grown hgrow (by simp;omega) (fun k hk=>by have:=(OW.out.lt k hk).1;omega)
      have OW5:=hide hown';clear hown' hgrow
      go_wp2
      go_roundw
      case rel=>exact ⟨2,l',by omega,by go_num,by rw [hl'.out,HN.out];rfl,OW5.out,B5⟩
      case measure=>simp [intOf]
     by_cases hB:lb=f
     ·have e1:(lb==f)=true:=by simp [hB]
      have e2:(lr==r)=false:=by
       have:¬lr=r:=fun e=>hA ⟨hB,e⟩
       simpa using this
      clear hB;have hn:h=g++hit1 f r ⟨la,lb,lc,lr⟩++hit2 f r ⟨la,lb,lc,lr⟩:=by
       rw [HH.out];simp [hit2,hA]
      have HN:=hide hn;clear hn hA
      go_wp2
      go_roundw
      case rel=>exact ⟨2,h,by omega,by go_num,by rw [HN.out];rfl,OW.out.alloc _,hb2.alloc hb2.size _⟩
      case measure=>simp [intOf]
     ·have e1:(lb==f)=false:=by simpa using hB
      clear hB;have hn:h=g++hit1 f r ⟨la,lb,lc,lr⟩++hit2 f r ⟨la,lb,lc,lr⟩:=by
       rw [HH.out];simp [hit2,hA]
      have HN:=hide hn;clear hn hA
      go_wp2
      go_roundw
      case rel=>exact ⟨2,h,by omega,by go_num,by rw [HN.out];rfl,OW.out.alloc _,hb2.alloc hb2.size _⟩
      case measure=>simp [intOf]
    ·have hn:h=gath ls f r (k+1):=by rw [HG.out,HH.out];rfl
     have HN:=hide hn;clear hn
     go_wp2
     exact⟨⟨k+1,by omega,by go_num,by rw [<-HN.out];exact OW.out,hb2⟩,by simp [intOf];omega⟩
  ·have hk':k=ls.length:=by omega
   rw [hk'] at hown;have OW:=hide hown;clear hown hk'
   go_wp2
   go_ret
   exact⟨_,rfl,OW.out,hb⟩
def ptrV (k:Nat):Value:=.pointer (some ⟨k,0,none⟩)
def ptrs (q:Nat->Nat)(n:Nat):List Value:=(List.range n).map (fun i=>ptrV (q i))
theorem Zen {q:Nat->Nat}{n i:Nat}(h:i<n):(ptrs q n)[i]? = some (ptrV (q i)):=by simp [ptrs,h]
theorem ZfJ (q:Nat->Nat)(n:Nat):(ptrs q n).length=n:=by simp [ptrs]
structure HQ (W:World) (lo:Nat) (u:Value) (n:Nat) (q:Nat->Nat) (wd:Nat->WayD) (wv:Nat->Value):Prop where
 row:W.ownsRow lo 273 1 u n (ptrs q n)
 way:∀ i,i<n->W.heap[q i]? = some (.cells (wayC (wd (q i)) (wv (q i))) 194)
 sl:∀ i,i<n->∃ a l c,wv (q i)=.slice a l c
theorem HQ.cell {W:World}{lo n:Nat}{u:Value}{q:Nat->Nat}{wd:Nat->WayD}{wv:Nat->Value}(h:HQ W lo u n q wd wv){i:Nat}(hi:i<n):∃ g cap,u=.slice (some ⟨g,0,none⟩) n cap/\W.cell? ⟨g,i,none⟩=some (ptrV (q i))/\g<W.heap.size:=by
 rcases h.row.2 with ⟨_,e⟩ | ⟨g,cap,cur,hv,_⟩
 ·omega
 ·refine ⟨g,cap,hv,?_,(h.row.lt g (by rw [hv];rfl)).2⟩
  have:=World.ownsRow.cellAt (by rw [<-hv];exact h.row) i (by omega)
  rw [this,Zen hi]
theorem HQ.below {W W':World}{lo n:Nat}{u:Value}{q:Nat->Nat}{wd:Nat->WayD}{wv:Nat->Value}(h:HQ W lo u n q wd wv)(hb:Below W.heap.size W W'):HQ W' lo u n q wd wv:=
 ⟨Zae h.row hb (Nat.le_refl _),fun i hi=>(hb.block _ (Zab (h.way i hi))).trans (h.way i hi),h.sl⟩
theorem ZeO (W:World)(lo n:Nat)(u:Value)(q:Nat->Nat)(wd:Nat->WayD)(wv:Nat->Value)(i j:Nat)(h:HQ W lo u n q wd wv)(hi:i<n)(hj:j<n):
  Calls Tryz.prog 334 #[u,.int .i64 (i:Int),.int .i64 (j:Int)] W fun e W'=>e=.returned (.bool (decide ((wd (q i)).cost<(wd (q j)).cost)))/\Below W.heap.size W W':=by
 obtain⟨g,cap,rfl,ci,hg⟩:=h.cell hi;obtain⟨g2,cap2,e2,cj,_⟩:=h.cell hj;cases e2
 obtain⟨ai,li,ci2,ei⟩:=h.sl i hi;obtain⟨aj,lj,cj2,ej⟩:=h.sl j hj;have wi:=h.way i hi;have wj:=h.way j hj;rw [ei] at wi;rw [ej] at wj;obtain⟨x,hx⟩:∃ x,x=wd (q i):=⟨_,rfl⟩;obtain⟨y,hy⟩:∃ y,y=wd (q j):=⟨_,rfl⟩;obtain⟨p,hp⟩:∃ p,p=q i:=⟨_,rfl⟩;obtain⟨r,hr⟩:∃ r,r=q j:=⟨_,rfl⟩;rw [<-hx] at wi |-;rw [<-hy] at wj |-;rw [<-hp] at ci wi;rw [<-hr] at cj wj;unfold ptrV at ci cj;have a0:=Zaa wi 0;have a1:=Zaa wi 1;have a2:=Zaa wi 2;have b0:=Zaa wj 0;have b1:=Zaa wj 1;have b2:=Zaa wj 2;simp [wayC] at a0 a1 a2 b0 b1 b2
 have hBt:=hide (fun W=>Zcf (.slice ai li ci2) (.slice aj lj cj2) x y W)
 unfold wayC Zbz at hBt;have h1:(0:Int)<=(i:Int):=by omega
 have h2:(i:Int)<(n:Int):=by omega
 have h3:(0:Int)<=(j:Int):=by omega
 have h4:(j:Int)<(n:Int):=by omega
 have lp:=Zab wi;have lr:=Zab wj;clear h hx hy hp hr wi wj ei ej
 go_enter Tryz.func334,Tryz.ntmps334
 go_wp2
 go_region_held3 (fun V=>V.cell? ⟨g,i,none⟩=some (.pointer (some ⟨p,0,none⟩))/\V.cell? ⟨g,j,none⟩=some (.pointer (some ⟨r,0,none⟩))/\V.cell? ⟨p,0,none⟩=some (.int .i64 x.to)/\V.cell? ⟨p,1,none⟩=some (.int .i64 x.cost)/\V.cell? ⟨p,2,none⟩=some (.slice ai li ci2)/\V.cell? ⟨r,0,none⟩=some (.int .i64 y.to)/\V.cell? ⟨r,1,none⟩=some (.int .i64 y.cost)/\V.cell? ⟨r,2,none⟩=some (.slice aj lj cj2)) (first | (refine ⟨?_,?_,?_,?_,?_,?_,?_,?_⟩ <;> (refine Eq.trans (Below.cell (B:=W.heap.size) (w:=W.drew) hbb ?_) ?_ <;> assumption)) | go_keep) (first | (go_at_call 261;refine (hBt.out _).mono ?_;rintro e w2 ⟨rfl,hbb⟩))
 go_wp2
 go_ret
 exact⟨rfl,((Below.refl W.heap.size W).drew).trans hbb⟩
theorem ZhU (W:World)(a:Option Addr)(n cap:Nat):Calls Tryz.prog 263 #[.slice a n cap] W fun e W'=>e=.returned (.int .i64 (n:Int))/\W=W':=by
 go_enter Tryz.func263,Tryz.ntmps263
 go_wp2
 go_ret
 exact⟨rfl,rfl⟩
theorem Zh3 {W:World}{lo n g cap i:Nat}{e:TypeId}{q:Nat->Nat}(h:W.ownsRow lo e 1 (.slice (some ⟨g,0,none⟩) n cap) n (ptrs q n))(hi:i<n)(k:Nat):(W.setCell ⟨g,i,none⟩ (ptrV k)).ownsRow lo e 1 (.slice (some ⟨g,0,none⟩) n cap) n (ptrs (fun x=>if x=i then k else q x) n):=by
 rcases h.2 with ⟨e1,_⟩ | ⟨g',cap',cur,hv,hg,hh,hnc,hcm,hcs,htk⟩
 ·cases e1
 ·cases hv
  refine⟨by rw [ZfJ];omega,.inr ⟨g,cap,cur.setIfInBounds i (ptrV k),rfl,hg,heap_setCell_same W g i _ _ _ hh,hnc,hcm,by simpa using hcs,?_⟩⟩
  have e2:(cur.setIfInBounds i (ptrV k)).toList=cur.toList.set i (ptrV k):=by simp
  rw [e2,List.take_set];have e3:cur.toList.take (n*1)=ptrs q n:=htk;rw [Nat.mul_one] at e3 |-;rw [e3]
  apply List.ext_getElem?
  intro x;rw [List.getElem?_set];by_cases hx:x<n
  ·rw [Zen hx]
   by_cases e4:i=x
   ·subst e4
    rw [if_pos rfl,if_pos (by rw [ZfJ];exact hi),Zen hi,if_pos rfl]
   ·rw [if_neg e4,Zen hx,if_neg (fun e=>e4 e.symm)]
  ·rw [List.getElem?_eq_none (by rw [ZfJ];omega),if_neg (by omega),List.getElem?_eq_none (by rw [ZfJ];omega)]
theorem Ze3 (W:World)(lo n:Nat)(u:Value)(q:Nat->Nat)(i j:Nat)(h:W.ownsRow lo 273 1 u n (ptrs q n))(hi:i<n)(hj:j<n):
  Calls Tryz.prog 335 #[u,.int .i64 (i:Int),.int .i64 (j:Int)] W fun e W'=>e=.returned (.tuple #[])/\W'.ownsRow lo 273 1 u n (ptrs (Zcb q i j) n)/\W.grownBy W' u.ownBlock:=by
 rcases h.2 with ⟨_,e⟩ | ⟨g,cap,cur,hv,hg,hh,_⟩
 ·omega
 subst hv;have ci:=(World.ownsRow.cellAt h i (by omega)).trans (Zen hi)
 have cj:=(World.ownsRow.cellAt h j (by omega)).trans (Zen hj)
 have fz:=Zaf hh;obtain⟨p,hp⟩:∃ p,p=q i:=⟨_,rfl⟩;obtain⟨r,hr⟩:∃ r,r=q j:=⟨_,rfl⟩;rw [<-hp] at ci;rw [<-hr] at cj;unfold ptrV at ci cj;have h1:(0:Int)<=(i:Int):=by omega
 have h2:(i:Int)<(n:Int):=by omega
 have h3:(0:Int)<=(j:Int):=by omega
 have h4:(j:Int)<(n:Int):=by omega
 obtain⟨y,hy⟩:∃ y,(W.setCell ⟨g,i,none⟩ (.pointer (some ⟨r,0,none⟩))).cell? ⟨g,j,none⟩=some y:=by
  have o1:=Zh3 h hi r;exact⟨_,(World.ownsRow.cellAt o1 j (by omega)).trans (Zen hj)⟩
 have HP:=hide hp;have HR:=hide hr;have HH:=hide h;have HO:=hide (show ((W.setCell ⟨g,i,none⟩ (.pointer (some ⟨r,0,none⟩))).setCell ⟨g,j,none⟩ (.pointer (some ⟨p,0,none⟩))).ownsRow lo 273 1 (.slice (some ⟨g,0,none⟩) n cap) n (ptrs (Zcb q i j) n) by
  have o2:=Zh3 (Zh3 h hi r) hj p;have e:(fun x=>if x=j then p else if x=i then r else q x)=Zcb q i j:=by
   funext x
   unfold Zcb;by_cases e1:x=j
   ·rw [if_pos e1]
    by_cases e2:x=i
    ·rw [if_pos e2,hp, <-e2,e1]
    ·rw [if_neg e2,if_pos e1,hp]
   ·rw [if_neg e1]
    by_cases e2:x=i
    ·rw [if_pos e2,if_pos e2,hr]
    ·rw [if_neg e2,if_neg e2,if_neg e1]
  rw [e] at o2;exact o2)
 have HG:=hide (show W.grownBy ((W.setCell ⟨g,i,none⟩ (.pointer (some ⟨r,0,none⟩))).setCell ⟨g,j,none⟩ (.pointer (some ⟨p,0,none⟩))) (some g) from Zah (Zaq W g _ _) (Zaq _ g _ _))
 clear hh hp hr h
 go_enter Tryz.func335,Tryz.ntmps335
 go_wp2
 go_region
 go_wp2
 go_returns
 exact⟨rfl,HO.out.drew,⟨HG.out.os,HG.out.tape,HG.out.output,HG.out.size,HG.out.block⟩⟩
def ltW (xs:List WayD)(r:WayD)(t:Nat):Prop:=∃ x,xs[t]? = some x/\x.to<r.to
theorem Zpn {xs:List WayD}{r x:WayD}{t:Nat}(h:xs[t]? = some x):ltW xs r t↔x.to<r.to:=by
 constructor
 ·rintro ⟨y,hy,hl⟩
  rw [h] at hy;cases hy
  exact hl
 ·exact fun hl=>⟨x,h,hl⟩
theorem ZeV (v1 v2:Value)(x y:WayD)(w:World):Calls Tryz.prog 245 #[.agg (wayC x v1),.agg (wayC y v2)] w fun e w'=>e=.returned (.int .i64 (cmpN x.to y.to))/\Below w.heap.size w w':=by
 unfold wayC
 go_enter Tryz.func245,Tryz.ntmps245
 go_wp2_with fail
 refine (ZbN _ _ _).mono ?_
 rintro e w1 ⟨rfl,rfl⟩
 go_wp2
 go_ret
 exact⟨rfl,Zas _ _⟩
theorem Zkg (v:Value)(ps:List WP)(hi:Nat)(r:WP)(w:World)(hv:ZcI w v ps hi)(hhi:hi<=w.heap.size)(hn:ps.length<=1048576)(hr:∃ a c,r.2=.slice a r.1.hops.length c)(hmono:∀ s t,s<=t->t<ps.length->ltW (Zal ps) r.1 t->ltW (Zal ps) r.1 s):
  Calls Tryz.prog 244 #[v,.agg (wayC r.1 r.2),.func (.func 245) #[] #[]] w fun e w'=>∃ (i:Nat) (f:Bool),e=.returned (.tuple #[.int .i64 (i:Int),.bool f])/\i<=ps.length/\(∀ t,t<i->ltW (Zal ps) r.1 t)/\(∀ t,i<=t->t<ps.length->¬ltW (Zal ps) r.1 t)/\(f=true↔∃ x,(Zal ps)[i]? = some x/\x.to=r.1.to)/\Below w.heap.size w w':=by
 obtain⟨a1,c1,rfl⟩:=hv.shape;obtain⟨ra,rc,hrn⟩:=hr;have HRN:=hide hrn;have HV:=hide hv;have HM:=hide hmono;unfold wayC;rw [hrn];clear hv hrn hmono;have BX:Below w.heap.size w (w.alloc (.cells #[.int .i64 r.1.to,.int .i64 r.1.cost,.slice ra r.1.hops.length rc] 194)):=(Below.refl _ _).alloc (Nat.le_refl _) _;have hx:=heap_alloc_new w (.cells #[.int .i64 r.1.to,.int .i64 r.1.cost,.slice ra r.1.hops.length rc] 194);obtain⟨w0,hw0⟩:∃ w0,w0=w.alloc (.cells #[.int .i64 r.1.to,.int .i64 r.1.cost,.slice ra r.1.hops.length rc] 194):=⟨_,rfl⟩;rw [<-hw0] at BX hx;have hs0:=Zab hx;have HX:=hide hx;clear hx
 go_enter Tryz.func244,Tryz.ntmps244
 go_wp2
 rw [<-hw0];clear hw0
 go_loopw [9,10] (fun i j wr=>∃ (m n:Nat),m<=n/\n<=ps.length/\i=.int .i64 m/\j=.int .i64 n/\Hid (∀ t,t<m->ltW (Zal ps) r.1 t)/\Hid (∀ t,n<=t->t<ps.length->¬ltW (Zal ps) r.1 t)/\Below w0.heap.size w0 wr) (fun i j _=>(intOf j).toNat-(intOf i).toNat)
 case atStart=>exact ⟨0,ps.length,by omega,by omega,rfl,rfl,hide (by omega),hide (by omega),Below.refl _ _⟩
 case round=>
  obtain⟨m,n,hmn,hnp,rfl,rfl,HLO,HHI,hnx⟩:=hrel;have hsz:=hnx.size;have BWR:Below w.heap.size w wr:=BX.trans (hnx.mono (by omega))
  by_cases hlt:m<n
  ·have hmi:(m:Int)<(n:Int):=by omega
   have hw1:IntKind.i64.wrap ((m:Int)+(n:Int))=(m:Int)+(n:Int):=ZaK _ (by omega) (by omega)
   go_wp2
   obtain⟨k,hk⟩:∃ k:Nat,k=(m+n) / 2:=⟨_,rfl⟩;have hke:((m:Int)+(n:Int)) / 2=(k:Int):=by omega
   rw [hke];have hkm:m<=k:=by omega
   have hkn:k<n:=by omega
   have hki:(0:Int)<=(k:Int):=by omega
   have hkj:(k:Int)<(ps.length:Int):=by omega
   clear hk hke hw1;obtain⟨p,hp⟩:∃ p,ps[k]? = some p:=⟨ps[k],List.getElem?_eq_getElem (by omega)⟩
   obtain⟨b,off,cap',hve,hbb,c0,c1,c2,hnr⟩:=HV.out.cells k p hp;cases hve
   obtain⟨pa,pc,hpn⟩:=hnr.shape;rw [hpn] at c2;rw [<-BWR.cell (p:=⟨b,off+k*3,none⟩) (Nat.lt_of_lt_of_le hbb hhi)] at c0;rw [<-BWR.cell (p:=⟨b,off+k*3+1,none⟩) (Nat.lt_of_lt_of_le hbb hhi)] at c1;rw [<-BWR.cell (p:=⟨b,off+k*3+2,none⟩) (Nat.lt_of_lt_of_le hbb hhi)] at c2;have hxx:=(hnx.block _ (Zab HX.out)).trans HX.out;have d0:=Zaa hxx 0;have d1:=Zaa hxx 1;have d2:=Zaa hxx 2;simp at d0 d1 d2
   have hb1:b<wr.heap.size:=by omega
   have hb2:w.heap.size<wr.heap.size:=by omega
   have hq:=fun W=>ZeV p.2 r.2 p.1 r.1 W
   unfold wayC at hq;rw [hpn,HRN.out] at hq;obtain⟨x,hx⟩:∃ x,x=cmpN p.1.to r.1.to:=⟨_,rfl⟩;rw [<-hx] at hq;have HK:=hide hq;have HXV:=hide hx;have HPP:=hide (ZcA hp);clear hq hx hp hxx hnr hpn;by_cases hx0:x<0
   ·have HLO2:=hide (show ∀ t,t<k+1->ltW (Zal ps) r.1 t from fun t ht=>HM.out t k (by omega) (by omega) ((Zpn HPP.out).2 (Zdh.1 (by rw [<-HXV.out];exact hx0))))
    go_region_held3 (fun W=>W.cell? ⟨b,off+k*3,none⟩=some (.int .i64 p.1.to)/\W.cell? ⟨b,off+k*3+1,none⟩=some (.int .i64 p.1.cost)/\W.cell? ⟨b,off+k*3+2,none⟩=some (.slice pa p.1.hops.length pc)/\W.cell? ⟨w.heap.size,0,none⟩=some (.int .i64 r.1.to)/\W.cell? ⟨w.heap.size,1,none⟩=some (.int .i64 r.1.cost)/\W.cell? ⟨w.heap.size,2,none⟩=some (.slice ra r.1.hops.length rc)) (first | go_keep | (refine ⟨?_,?_,?_,?_,?_,?_⟩ <;> (rw [hbc.cell (by assumption)];assumption))) (first | (go_at_call 245;refine (HK.out _).mono ?_;rintro e w1 ⟨rfl,hbc⟩))
    go_wp2
    go_roundw
    case rel=>exact ⟨k+1,n,by omega,by omega,by go_num,rfl,HLO2,HHI,hnx.trans ((Below.refl _ _).drew.trans (hbc.mono hsz))⟩
    case measure=>simp [intOf];omega
   ·have HHI2:=hide (show ∀ t,k<=t->t<ps.length->¬ltW (Zal ps) r.1 t from fun t h1 h2 h3=>hx0 (by rw [HXV.out];exact Zdh.2 ((Zpn HPP.out).1 (HM.out k t h1 h2 h3))))
    go_region_held3 (fun W=>W.cell? ⟨b,off+k*3,none⟩=some (.int .i64 p.1.to)/\W.cell? ⟨b,off+k*3+1,none⟩=some (.int .i64 p.1.cost)/\W.cell? ⟨b,off+k*3+2,none⟩=some (.slice pa p.1.hops.length pc)/\W.cell? ⟨w.heap.size,0,none⟩=some (.int .i64 r.1.to)/\W.cell? ⟨w.heap.size,1,none⟩=some (.int .i64 r.1.cost)/\W.cell? ⟨w.heap.size,2,none⟩=some (.slice ra r.1.hops.length rc)) (first | go_keep | (refine ⟨?_,?_,?_,?_,?_,?_⟩ <;> (rw [hbc.cell (by assumption)];assumption))) (first | (go_at_call 245;refine (HK.out _).mono ?_;rintro e w1 ⟨rfl,hbc⟩))
    go_wp2
    go_roundw
    case rel=>exact ⟨m,k,by omega,by omega,rfl,rfl,HLO,HHI2,hnx.trans ((Below.refl _ _).drew.trans (hbc.mono hsz))⟩
    case measure=>simp [intOf];omega
  ·have hmn2:m=n:=by omega
   subst hmn2;by_cases hend:m<ps.length
   ·have hmi:(0:Int)<=(m:Int):=by omega
    have hmj:(m:Int)<(ps.length:Int):=by omega
    obtain⟨p,hp⟩:∃ p,ps[m]? = some p:=⟨ps[m],List.getElem?_eq_getElem (by omega)⟩
    obtain⟨b,off,cap',hve,hbb,c0,c1,c2,hnr⟩:=HV.out.cells m p hp;cases hve
    obtain⟨pa,pc,hpn⟩:=hnr.shape;rw [hpn] at c2;rw [<-BWR.cell (p:=⟨b,off+m*3,none⟩) (Nat.lt_of_lt_of_le hbb hhi)] at c0;rw [<-BWR.cell (p:=⟨b,off+m*3+1,none⟩) (Nat.lt_of_lt_of_le hbb hhi)] at c1;rw [<-BWR.cell (p:=⟨b,off+m*3+2,none⟩) (Nat.lt_of_lt_of_le hbb hhi)] at c2;have hxx:=(hnx.block _ (Zab HX.out)).trans HX.out;have d0:=Zaa hxx 0;have d1:=Zaa hxx 1;have d2:=Zaa hxx 2;simp at d0 d1 d2
    have hb1:b<wr.heap.size:=by omega
    have hb2:w.heap.size<wr.heap.size:=by omega
    have hq:=fun W=>ZeV p.2 r.2 p.1 r.1 W
    unfold wayC at hq;rw [hpn,HRN.out] at hq;obtain⟨x,hx⟩:∃ x,x=cmpN p.1.to r.1.to:=⟨_,rfl⟩;rw [<-hx] at hq;have HK:=hide hq;have HXV:=hide hx;have HPP:=hide (ZcA hp);clear hq hx hp hxx hnr hpn;have hfin:(x==0)=true↔∃ y,(Zal ps)[m]? = some y/\y.to=r.1.to:=by
     rw [HPP.out]
     constructor
     ·intro h
      exact⟨p.1,rfl,Za4.1 (by rw [<-HXV.out];simpa using h)⟩
     ·rintro ⟨y,hy,he⟩
      cases hy
      rw [HXV.out]
      simpa using Za4.2 he
    have HFIN:=hide hfin;clear hfin
    go_wp2
    go_region_held3 (fun W=>W.cell? ⟨b,off+m*3,none⟩=some (.int .i64 p.1.to)/\W.cell? ⟨b,off+m*3+1,none⟩=some (.int .i64 p.1.cost)/\W.cell? ⟨b,off+m*3+2,none⟩=some (.slice pa p.1.hops.length pc)/\W.cell? ⟨w.heap.size,0,none⟩=some (.int .i64 r.1.to)/\W.cell? ⟨w.heap.size,1,none⟩=some (.int .i64 r.1.cost)/\W.cell? ⟨w.heap.size,2,none⟩=some (.slice ra r.1.hops.length rc)) (first | go_keep | (refine ⟨?_,?_,?_,?_,?_,?_⟩ <;> (rw [hbc.cell (by assumption)];assumption))) (first | (go_at_call 245;refine (HK.out _).mono ?_;rintro e w1 ⟨rfl,hbc⟩))
    go_wp2
    go_returns
    exact⟨m,x==0,rfl,by omega,HLO.out,HHI.out,HFIN.out,BWR.trans ((Below.refl _ _).drew.trans (hbc.mono (show w.heap.size<=wr.heap.size by omega)))⟩
   ·have hme:¬(m:Int)<(ps.length:Int):=by omega
    have HNO:=hide (show (false=true↔∃ y,(Zal ps)[m]? = some y/\y.to=r.1.to) from ⟨(fun h=>by cases h),(fun ⟨y,hy,_⟩=>by rw [List.getElem?_eq_none (by simp [Zal];omega)] at hy;cases hy)⟩)
    go_wp2
    go_quiet (fail)
    go_wp2
    go_returns
    exact⟨m,false,rfl,by omega,HLO.out,HHI.out,HNO.out,BWR.trans ⟨rfl,rfl,rfl,Nat.le_refl _,fun _ _=>rfl⟩⟩
end Go.Proofs.YtadokhjefnkajaaGreat
