/-
  ILinked ILinkR WalkMath WysM BackM HomeM RtK ThM RtsK RtsL RtsM HopsToS RtMath
-/
import Derived.Test.YtgdgkgmjpnbbcaaGreatOn9
import Derived.Test.YtgdgkgmjpnbbcaaGreatOn2
import Derived.Test.YtgdgkgmjpnbbcaaGreatOn7
import Derived.Test.YtgdgkgmjpnbbcaaGreatOn11
import Derived.Test.YtgdgkgmjpnbbcaaGreatOn10
import Derived.Test.YtgdgkgmjpnbbcaaGreatOn20
import Derived.Handy
namespace Go.Proofs.YtgdgkgmjpnbbcaaGreat
open Go.RowKit
set_option linter.unusedSimpArgs false
set_option linter.unusedVariables false
set_option maxRecDepth 100000
set_option maxHeartbeats 8000000
def ZgA (area owner:Int)(x:RecD):Bool:=x.area==area&&x.kind==1&&x.owner==owner
def plN (xs:List RecD)(area owner:Int):Option Nat:=xs.findIdx? (ZgA area owner)
def plV2:Option Nat->Value
 | some k=>.tuple #[.int .i64 (k:Int),.bool true]
 | none=>.tuple #[.int .i64 0,.bool false]
theorem ZmL {xs:List RecD}{area owner:Int}{x:RecD}{k:Nat}(hk:xs[k]? = some x)(hs:ZgA area owner x=true)(hall:∀ j,j<k->∀ y,xs[j]? = some y->ZgA area owner y=false):plN xs area owner=some k:=by
 obtain⟨h1,e1⟩:=List.getElem?_eq_some_iff.1 hk;unfold plN;rw [List.findIdx?_eq_some_iff_getElem];refine⟨h1,by rw [e1];exact hs,fun j hj=>?_⟩
 have:=hall j hj xs[j] (List.getElem?_eq_getElem (by omega))
 rw [this];simp
theorem Zob {xs:List RecD}{area owner:Int}(hall:∀ j,j<xs.length->∀ y,xs[j]? = some y->ZgA area owner y=false):plN xs area owner=none:=by
 unfold plN;rw [List.findIdx?_eq_none_iff];intro x hx;obtain⟨j,hj,e⟩:=List.mem_iff_getElem.1 hx;exact hall j hj x (by rw [List.getElem?_eq_getElem hj,e])
theorem Znj {xs:List RecD}{k:Nat}{x:RecD}{f:RecD->Bool}(h:∀ j,j<k->∀ y,xs[j]? = some y->f y=false)(hk:xs[k]? = some x)(hx:f x=false):∀ j,j<k+1->∀ y,xs[j]? = some y->f y=false:=by
 intro j hj y hy;by_cases e:j=k
 ·subst e
  rw [hk] at hy;cases hy
  exact hx
 ·exact h j (by omega) y hy
theorem Zhs (v:Value)(ps:List RP)(hi:Nat)(area owner:Int)(w:World)(hv:RecsIn w hi v ps)(hhi:hi<=w.heap.size)(hn:tot ps<=1048576):
  Calls Tryz.prog 57 #[v,.int .i64 area,.int .i64 owner] w fun e w'=>e=.returned (plV2 (plN (fsts ps) area owner))/\Below w.heap.size w w':=by
 have hnl:=ZbI ps;obtain⟨R,hR⟩:∃ R,R=plN (fsts ps) area owner:=⟨_,rfl⟩;rw [<-hR];have HR:=hide hR;clear hR;obtain⟨a1,c1,rfl⟩:=Zac hv.row;have HV:=hide hv;clear hv
 go_enter Tryz.func57,Tryz.ntmps57
 go_wp2
 go_loopw [11] (fun i wr=>∃ (k:Nat),k<=ps.length/\i=.int .i64 (k:Int)/\Hid (∀ j,j<k->∀ y,(fsts ps)[j]? = some y->ZgA area owner y=false)/\Below w.heap.size w wr) (fun i _=>ps.length-(intOf i).toNat)
 case atStart=>exact ⟨0,by omega,rfl,hide (by omega),Below.refl _ _⟩
 case round=>
  obtain⟨k,hk,rfl,HALL,hnx⟩:=hrel;by_cases hlt:k<ps.length
  ·obtain ⟨p,hp⟩:∃ p,ps[k]? = some p:=⟨ps[k],List.getElem?_eq_getElem hlt⟩
   have hat:=HV.out.at;obtain⟨b,off,cap',hve,hbb,c0,c1,c2,_⟩:=hat.cells k p hp;cases hve
   rw [<-hnx.cell (p:=⟨b,off+k*8,none⟩) (Nat.lt_of_lt_of_le hbb hhi)] at c0;rw [<-hnx.cell (p:=⟨b,off+k*8+1,none⟩) (Nat.lt_of_lt_of_le hbb hhi)] at c1;rw [<-hnx.cell (p:=⟨b,off+k*8+2,none⟩) (Nat.lt_of_lt_of_le hbb hhi)] at c2;have hki:(0:Int)<=(k:Int):=by omega
   have hkj:(k:Int)<(ps.length:Int):=by omega
   have HPP:=hide (Zbo hp);obtain⟨x0,hx0⟩:∃ x,x=p.1.area:=⟨_,rfl⟩;obtain⟨x1,hx1⟩:∃ x,x=p.1.kind:=⟨_,rfl⟩;obtain⟨x2,hx2⟩:∃ x,x=p.1.owner:=⟨_,rfl⟩;have HM:=hide (show ZgA area owner p.1=(x0==area&&x1==1&&x2==owner) by rw [hx0,hx1,hx2];rfl)
   rw [<-hx0] at c0;rw [<-hx1] at c1;rw [<-hx2] at c2;clear hp hat hx0 hx1 hx2;have NXT:=hide (fun (e:(x0==area&&x1==1&&x2==owner)=false)=>Znj HALL.out HPP.out (HM.out.trans e))
   by_cases h0:x0=area
   ·by_cases h1:x1=1
    ·by_cases h2:x2=owner
     ·have HF:=hide (show R=some k by rw [HR.out];exact ZmL HPP.out (by rw [HM.out];simp [h0,h1,h2]) HALL.out)
      have hRR:=HF.out;subst hRR;subst h0 h1 h2;clear NXT HM
      go_wp2
      go_returns
      exact⟨rfl,hnx⟩
     ·have HN:=hide (NXT.out (by simp [h2]))
      have hb2:(x2==owner)=false:=by simpa using h2
      subst h0 h1;clear NXT HM
      go_wp2
      go_roundw
      case rel=>exact ⟨k+1,by omega,by go_num,HN,hnx⟩
      case measure=>simp [intOf];omega
    ·have HN:=hide (NXT.out (by simp [h1]))
     have hb1:(x1==1)=false:=by simpa using h1
     subst h0;clear NXT HM
     go_wp2
     go_roundw
     case rel=>exact ⟨k+1,by omega,by go_num,HN,hnx⟩
     case measure=>simp [intOf];omega
   ·have HN:=hide (NXT.out (by simp [h0]))
    have hb0:(x0==area)=false:=by simpa using h0
    clear NXT HM
    go_wp2
    go_roundw
    case rel=>exact ⟨k+1,by omega,by go_num,HN,hnx⟩
    case measure=>simp [intOf];omega
  ·have HF:=hide (show R=none by rw [HR.out];exact Zob (fun j hj=>HALL.out j (by simp [fsts] at hj;omega)))
   have hRR:=HF.out;subst hRR
   go_wp2
   go_returns
   exact⟨rfl,hnx⟩
def Zii (xs:List RecD)(area owner to:Int):Option Int:=match plN xs area owner with
 | some k=>match xs[k]? with
  | some x=>(x.near.find? (fun n=>n.to==to)).map (·.c)
  | none=>none
 | none=>none
def Zm7:Option Int->Value
 | some c=>.tuple #[.int .i64 c,.bool true]
 | none=>.tuple #[.int .i64 0,.bool false]
theorem ZoL {xs:List RecD}{area owner:Int}{k:Nat}(h:plN xs area owner=some k):∃ x,xs[k]? = some x/\ZgA area owner x=true/\∀ j,j<k->∀ y,xs[j]? = some y->ZgA area owner y=false:=by
 unfold plN at h;obtain⟨h1,h2,h3⟩:=List.findIdx?_eq_some_iff_getElem.1 h;refine⟨xs[k],List.getElem?_eq_getElem h1,h2,fun j hj y hy=>?_⟩
 have h4:=h3 j hj;rw [List.getElem?_eq_getElem (by omega)] at hy
 cases hy
 simpa using h4
theorem Znz {ns:List Nr}{k:Nat}{n:Nr}{b:Int}(h:ns[k]? = some n)(hno:∀ q∈ns.take k,q.to≠b)(hb:n.to=b):ns.find? (fun x=>x.to==b)=some n:=by
 obtain⟨hk,e1⟩:=List.getElem?_eq_some_iff.1 h;rw [List.find?_eq_some_iff_append];refine⟨by simpa using hb,ns.take k,ns.drop (k+1),?_,?_⟩
 ·rw [<-e1, <-List.drop_eq_getElem_cons hk,List.take_append_drop]
 ·intro x hx
  simpa using hno x hx
theorem ZkO (v:Value)(ps:List RP)(hi:Nat)(area owner to:Int)(w:World)(hv:RecsIn w hi v ps)(hhi:hi<=w.heap.size)(hn:tot ps<=1048576):
  Calls Tryz.prog 115 #[v,.int .i64 area,.int .i64 owner,.int .i64 to] w fun e w'=>e=.returned (Zm7 (Zii (fsts ps) area owner to))/\Below w.heap.size w w':=by
 have hnl:=ZbI ps;obtain⟨R,hR⟩:∃ R,R=Zii (fsts ps) area owner to:=⟨_,rfl⟩;rw [<-hR];have HP:=hide (Zhs v ps hi area owner w hv hhi hn);obtain⟨a1,c1,rfl⟩:=Zac hv.row;unfold Zii at hR;cases hpl:plN (fsts ps) area owner with
 | none=>
  rw [hpl] at HP hR;have hRR:R=none:=hR;subst hRR;unfold plV2 at HP;unfold Zm7;clear hR hv
  go_enter Tryz.func115,Tryz.ntmps115
  go_wp2_with fail
  refine HP.out.mono ?_
  rintro e w1 ⟨rfl,b1⟩
  go_wp2
  go_returns
  exact⟨rfl,b1⟩
 | some k=>
  rw [hpl] at HP hR;obtain⟨x,hx,_,_⟩:=ZoL hpl;simp only [hx] at hR
  obtain⟨p,hp,rfl⟩:=Zhg hx;have hR2:R=(p.1.near.find? (fun n=>n.to==to)).map (·.c):=hR
  have HR:=hide hR2;clear hR hR2;unfold plV2 at HP;have hlt:k<ps.length:=(List.getElem?_eq_some_iff.1 hp).1;obtain⟨b,off,cap',hve,hbb,_,_,_,_,_,c5,_,_,hnr⟩:=hv.at.cells k p hp;cases hve
  obtain⟨pa,pc,hpn⟩:=ZaB.shape hnr;rw [hpn] at c5 hnr;have hnl2:p.1.near.length<=1048576:=by have:=ZgX (List.mem_of_getElem? hp);omega
  have HNR:=hide hnr;have hki:(0:Int)<=(k:Int):=by omega
  have hkj:(k:Int)<(ps.length:Int):=by omega
  obtain⟨ns,hns⟩:∃ ns,ns=p.1.near:=⟨_,rfl⟩;rw [<-hns] at HR c5 HNR hnl2;clear hx hp hv hnr hpn hns hpl
  go_enter Tryz.func115,Tryz.ntmps115
  go_wp2_with fail
  refine HP.out.mono ?_
  rintro e w1 ⟨rfl,b1⟩;rw [<-b1.cell (p:=⟨b,off+k*8+5,none⟩) (Nat.lt_of_lt_of_le hbb hhi)] at c5;have N1:=hide (ZaR.later HNR.out b1 hhi)
  go_wp2
  go_loopw [29] (fun i wr=>∃ (j:Nat),j<=ns.length/\i=.int .i64 (j:Int)/\Hid (∀ q∈ns.take j,q.to≠to)/\Below w1.heap.size w1 wr) (fun i _=>ns.length-(intOf i).toNat)
  case atStart=>exact ⟨0,by omega,rfl,hide (by simp),Below.refl _ _⟩
  case round=>
   obtain⟨j,hj,rfl,HNO,hnx⟩:=hrel;have hs1:=b1.size;have B:Below w.heap.size w wr:=b1.trans (hnx.mono hs1);have hsB:=B.size;have hsx:=hnx.size;by_cases hjl:j<ns.length
   ·obtain ⟨n,hnj⟩:∃ n,ns[j]? = some n:=⟨ns[j],List.getElem?_eq_getElem hjl⟩
    obtain⟨b2,off2,cp,hve,hbb2,d0,d1⟩:=ZaB.cells (ZaR.later N1.out hnx (by omega)) j n hnj
    cases hve
    have hji:(0:Int)<=(j:Int):=by omega
    have hjj:(j:Int)<(ns.length:Int):=by omega
    by_cases hto:n.to=to
    ·have HF:=hide (show R=some n.c by rw [HR.out,Znz hnj HNO.out hto];rfl)
     have hRR:=HF.out;subst hRR;subst hto;clear hnj
     go_wp2
     go_returns
     exact⟨rfl,B.alloc (by omega) _⟩
    ·have HN:=hide (Zjg hnj HNO.out hto)
     have hb0:(n.to==to)=false:=by simpa using hto
     clear hnj
     go_wp2
     go_roundw
     case rel=>exact ⟨j+1,by omega,by go_num,HN,hnx.alloc (by omega) _⟩
     case measure=>simp [intOf];omega
   ·have HF:=hide (show R=none by
     rw [HR.out];have h:=HNO.out;rw [List.take_of_length_le (by omega)] at h
     rw [List.find?_eq_none.2 (fun x hx=>by simpa using h x hx)]
     rfl)
    have hRR:=HF.out;subst hRR
    go_wp2
    go_returns
    exact⟨rfl,B⟩
def Zgy (xs:List RecD)(area a b:Int):Int:=match Zii xs area b a with
 | some _=>match Zii xs area a b with
  | some c=>c
  | none=>0
 | none=>0
theorem ZjI (v:Value)(ps:List RP)(hi:Nat)(area a b:Int)(w:World)(hv:RecsIn w hi v ps)(hhi:hi<=w.heap.size)(hn:tot ps<=1048576):
  Calls Tryz.prog 92 #[v,.int .i64 area,.int .i64 a,.int .i64 b] w fun e w'=>e=.returned (.int .i64 (Zgy (fsts ps) area a b))/\Below w.heap.size w w':=by
 have H1:=hide (ZkO v ps hi area b a w hv hhi hn);have H2:=hide (fun W (hb:Below w.heap.size w W)=>ZkO v ps hi area a b W (hv.below hb hhi) (Nat.le_trans hhi hb.size) hn)
 clear hv;unfold Zgy;cases e1:Zii (fsts ps) area b a with
 | none=>
  rw [e1] at H1;unfold Zm7 at H1
  go_enter Tryz.func92,Tryz.ntmps92
  go_wp2_with fail
  refine H1.out.mono ?_
  rintro e w1 ⟨rfl,b1⟩
  go_wp2
  go_ret
  exact⟨rfl,b1⟩
 | some c=>
  rw [e1] at H1;cases e2:Zii (fsts ps) area a b with
  | none=>
   rw [e2] at H2;unfold Zm7 at H1 H2
   go_enter Tryz.func92,Tryz.ntmps92
   go_wp2_with fail
   refine H1.out.mono ?_
   rintro e w1 ⟨rfl,b1⟩
   go_wp2_with fail
   refine (H2.out _ b1).mono ?_
   rintro e w2 ⟨rfl,b2⟩;have B2:Below w.heap.size w w2:=b1.trans (b2.mono b1.size)
   go_wp2
   go_ret
   exact⟨rfl,B2⟩
  | some c2=>
   rw [e2] at H2;unfold Zm7 at H1 H2
   go_enter Tryz.func92,Tryz.ntmps92
   go_wp2_with fail
   refine H1.out.mono ?_
   rintro e w1 ⟨rfl,b1⟩
   go_wp2_with fail
   refine (H2.out _ b1).mono ?_
   rintro e w2 ⟨rfl,b2⟩;have B2:Below w.heap.size w w2:=b1.trans (b2.mono b1.size)
   go_wp2
   go_ret
   exact⟨rfl,B2⟩
theorem Zln {x:RecD}(h:Za8 x=true)(hk:x.kind=1):x.key=0:=by
 unfold Za8 at h;simp only [Bool.and_eq_true] at h
 have h2:=h.2;rw [if_pos hk] at h2;simp only [Bool.and_eq_true,beq_iff_eq] at h2
 exact h2.1.1.1.2
theorem Zjf {xs:List RecD}(h:ZaE xs=true){x:RecD}(hx:x∈xs):Za8 x=true:=by
 unfold ZaE at h;simp only [Bool.and_eq_true] at h
 exact Zdi h.1.2 hx
theorem ZgB {xs:List RecD}(h:ZaE xs=true){area owner:Int}{x:RecD}(hx:x∈xs):ZgA area owner x=ZaN x (Zem area owner):=by
 have hok:=Zjf h hx;unfold ZgA ZaN Zem;by_cases hk:x.kind=1
 ·have:=Zln hok hk
  simp [this]
 ·have hb:(x.kind==1)=false:=by simpa using hk
  simp [hb]
theorem Zi7 {xs:List RecD}(h:ZaE xs=true)(area owner:Int):plN xs area owner=xs.findIdx? (fun x=>ZaN x (Zem area owner)):=by
 unfold plN;cases e:xs.findIdx? (ZgA area owner) with
 | none=>
  rw [List.findIdx?_eq_none_iff] at e;rw [Eq.comm,List.findIdx?_eq_none_iff];intro x hx;rw [<-ZgB h hx];exact e x hx
 | some k=>
  obtain⟨h1,h2,h3⟩:=List.findIdx?_eq_some_iff_getElem.1 e;rw [Eq.comm,List.findIdx?_eq_some_iff_getElem];refine⟨h1,?_,fun j hj=>?_⟩
  ·rw [<-ZgB h (List.getElem_mem _)];exact h2
  ·rw [<-ZgB h (List.getElem_mem _)];exact h3 j hj
theorem Zlf {xs:List RecD}(h:ZaE xs=true)(area owner:Int):Zfy xs area owner=(plN xs area owner).isSome:=by
 unfold Zfy Zg0 atZ;rw [<-Zi7 h];cases plN xs area owner with
 | none=>rfl
 | some k=>
  show (!decide ((k:Int)<0))=true
  simp
theorem ZhC {xs:List RecD}(h:ZaE xs=true)(area owner to:Int):Zii xs area owner to=((Zcy xs area owner).near.find? (fun n=>n.to==to)).map (·.c):=by
 unfold Zii Zcy ZiH atZ;rw [<-Zi7 h];cases e:plN xs area owner with
 | none=>rfl
 | some k=>
  obtain⟨x,hx,_,_⟩:=ZoL e
  show (match xs[k]? with
   | some x=>(x.near.find? (fun (n:Nr)=>n.to==to)).map (fun (n:Nr)=>n.c)
   | none=>none)=_
  rw [hx]
  show _=(((if ((k:Int)<0) then ZbM else xs.getD ((k:Int)).toNat ZbM).near.find? (fun (n:Nr)=>n.to==to)).map (fun (n:Nr)=>n.c))
  rw [if_neg (by omega)]
  simp [hx]
def AscN (ns:List Nr):Prop:=∀ (i j:Nat) (a b:Nr),i<j->ns[i]? = some a->ns[j]? = some b->a.to<b.to
theorem Zld {o:Int}{ns:List Nr}(h:Zbj o ns=true):AscN ns:=by
 unfold Zbj at h;simp only [Bool.and_eq_true] at h
 have hasc:=h.2;unfold ascB at hasc;rw [List.all_eq_true] at hasc;have step:∀ (j:Nat) (a b:Nr),ns[j]? = some a->ns[j+1]? = some b->a.to<b.to:=by
  intro j a b ha hb;have hj:j+1<ns.length:=(List.getElem?_eq_some_iff.1 hb).1;have:=hasc (j+1) (by simpa using hj)
  unfold ZcF at this;simp only [ha,hb] at this
  unfold ordN at this;simp at this
  omega
 intro i j a b hij
 induction j generalizing b with
 | zero=>omega
 | succ j ih=>
  intro ha hb;have hj:j+1<ns.length:=(List.getElem?_eq_some_iff.1 hb).1;obtain⟨m,hm⟩:∃ m,ns[j]? = some m:=⟨ns[j]'(by omega),List.getElem?_eq_getElem (by omega)⟩
  have s:=step j m b hm hb;by_cases e:i=j
  ·subst e
   rw [ha] at hm;cases hm
   exact s
  ·have:=ih m (by omega) ha hm;omega
theorem Zlc {ns:List Nr}{bk:Int->Int}{v:Nat}(hv:1<=v/\v<=6)(hasc:AscN ns):∀ k,k<=ns.length->ZdT ns bk v k=(if 0<bk (v:Int) then (((ns.take k).find? (fun n=>n.to==(v:Int))).map (·.c)).getD 0 else 0):=by
 intro k
 induction k with
 | zero=>intro _;simp [ZdT]
 | succ k ih=>
  intro hk;have hlt:k<ns.length:=by omega
  rw [Zec bk v (List.getElem?_eq_getElem hlt),ih (by omega),List.take_succ_eq_append_getElem hlt,List.find?_append]
  by_cases e:ns[k].to=(v:Int)
  ·by_cases hb:0<bk (v:Int)
   ·rw [if_pos ⟨e,by rw [e];exact ZdQ.2 (by omega),by rw [e];exact hb⟩,if_pos hb]
    have hno:(ns.take k).find? (fun n=>n.to==(v:Int))=none:=by
     rw [List.find?_eq_none];intro x hx;obtain⟨i,hi,e2⟩:=List.mem_iff_getElem.1 hx;rw [List.length_take] at hi;rw [List.getElem_take] at e2;have:=hasc i k x ns[k] (by omega) (by rw [List.getElem?_eq_getElem (by omega),e2]) (List.getElem?_eq_getElem hlt)
     simp
     omega
    rw [hno];simp [e]
   ·rw [if_neg (fun hc=>by rw [e] at hc;exact hb hc.2.2),if_neg hb,if_neg hb]
  ·rw [if_neg (fun hc=>e hc.1)]
   have e2:(ns[k].to==(v:Int))=false:=by simpa using e
   simp [e2]
theorem ZiV {xs:List RecD}(h:ZaE xs=true)(area:Int){u v:Nat}(hu:1<=u/\u<=6)(hv:1<=v/\v<=6):Zgy xs area (u:Int) (v:Int)=Ze3 xs area u v:=by
 unfold Zgy Ze3;rw [if_pos ⟨hu,hv⟩,ZhC h,ZhC h];unfold Zmq;have hasc:AscN (Zcy xs area (u:Int)).near:=by
  unfold Zcy
  rcases ZiI (xs:=xs) (r:=Zem area (u:Int)) with hm | he
  ·rcases ZgL (Zjf h hm) with e | ⟨_,e⟩
   ·rw [e];intro i j a b _ ha _;simp at ha
   ·exact Zld e
  ·rw [he];intro i j a b _ ha _;simp [ZbM] at ha
 rw [Zlc hv hasc _ (Nat.le_refl _),List.take_length];have hback:∀ c,((Zcy xs area (v:Int)).near.find? (fun n=>n.to==(u:Int))).map (·.c)=some c->0<c:=by
  intro c hc;obtain⟨n,hn,rfl⟩:=Option.map_eq_some_iff.1 hc;have:=ZgC (area:=area) (node:=(v:Int)) h n (List.mem_of_find?_eq_some hn);omega
 have htell:Zfl xs area (v:Int) (u:Int)=(((Zcy xs area (v:Int)).near.find? (fun n=>n.to==(u:Int))).map (·.c)).getD 0:=by
  unfold Zfl ZgU;cases (Zcy xs area (v:Int)).near.find? (fun n=>n.to==(u:Int)) <;> rfl
 cases e:((Zcy xs area (v:Int)).near.find? (fun n=>n.to==(u:Int))).map (·.c) with
 | none=>
  rw [if_neg (by rw [htell,e];simp)]
 | some c=>
  rw [if_pos (by rw [htell,e];exact hback c e)]
  cases ((Zcy xs area (u:Int)).near.find? (fun n=>n.to==(v:Int))) <;> rfl
end Go.Proofs.YtgdgkgmjpnbbcaaGreat
namespace Go.Proofs.YtgdgkgmjpnbbcaaGreat

inductive Walk (L:Nat->Nat->Int) (a:Nat):Nat->Int->Prop
 | nil:Walk L a a 0
 | step {v w:Nat} {x:Int}:Walk L a v x->0<L v w->Walk L a w (x+L v w)

theorem Walk.nn {L:Nat->Nat->Int}{a v:Nat}{x:Int}(h:Walk L a v x):0<=x:=by
 induction h with
 | nil=>omega
 | step _ hl ih=>omega

theorem Walk.trans {L:Nat->Nat->Int}{a b v:Nat}{x y:Int}(h1:Walk L a b x)(h2:Walk L b v y):Walk L a v (x+y):=by
 induction h2 with
 | nil=>simpa using h1
 | step _ hl ih=>
  have:=ih.step hl;rw [<-Int.add_assoc];exact this

theorem Walk.one {L:Nat->Nat->Int}{a b:Nat}(h:0<L a b):Walk L a b (L a b):=by
 have:=(Walk.nil (L:=L) (a:=a)).step h
 simpa using this

theorem Fix.walk {L:Nat->Nat->Int}{src:Nat}{c:Nat->Int}{h:Nat->List Int}(A:Fix L src c h):∀ (n v:Nat),0<=c v->(c v).toNat<=n->Walk L src v (c v):=by
 obtain⟨F,I,hF⟩:=A;intro n
 induction n with
 | zero=>
  intro v h0 hn;by_cases hv:v=src
  ·subst hv;rw [I.start];exact .nil
  ·obtain ⟨u,hu,hl,hc⟩:=I.pred v hv h0
   have:=(I.fnode u hu).2;omega
 | succ n ih=>
  intro v h0 hn;by_cases hv:v=src
  ·subst hv;rw [I.start];exact .nil
  ·obtain ⟨u,hu,hl,hc⟩:=I.pred v hv h0
   have h1:=(I.fnode u hu).2;rw [hc];exact (ih u h1 (by omega)).step hl

theorem Fix.least {L:Nat->Nat->Int}{src:Nat}{c:Nat->Int}{h:Nat->List Int}(A:Fix L src c h){v:Nat}{x:Int}(hw:Walk L src v x):0<=c v/\c v<=x:=by
 obtain⟨F,I,hF⟩:=A
 induction hw with
 | nil=>rw [I.start];omega
 | step _ hl ih=>
  have:=I.closed _ _ (hF _ ih.1) hl;omega

theorem Fix.over {L:Nat->Nat->Int}{a x:Nat}{c d:Nat->Int}{h g:Nat->List Int}(A:Fix L a c h)(B:Fix L x d g)(hl:0<L a x){t:Nat}(h0:0<=d t):0<=c t/\c t<=L a x+d t:=
 A.least ((Walk.one hl).trans (B.walk _ t h0 (Nat.le_refl _)))

end Go.Proofs.YtgdgkgmjpnbbcaaGreat
namespace Go.Proofs.YtgdgkgmjpnbbcaaGreat
open Go.RowKit

section
variable {xs:List RecD} {area:Int} {v:Nat} {ds:List WayD}

theorem Zne (hs:ZaE xs=true)(hv:1<=v/\v<=6)(hw:Zbn xs area (v:Int) ds):decide (0<ds.length)=Zg0 xs (Zem area (v:Int)):=by
 unfold Zbn at hw;have hin:inB (v:Int) 1 6=true:=by simp [inB];omega
 rw [hs,hin] at hw;simp only [Bool.true_and] at hw
 unfold Zfy at hw;cases hb:Zg0 xs (Zem area (v:Int)) with
 | true=>
  rw [hb,if_pos rfl] at hw;obtain⟨c,h,⟨F,I,hF⟩,rfl⟩:=hw;have hst:=I.start;have hm:(⟨(v:Int),c v,h v⟩:WayD)∈ZcG c h 6:=(Zf5 6).2 ⟨v,hv.1,hv.2,by simp at hst;omega,rfl⟩
  exact decide_eq_true (List.length_pos_of_mem hm)
 | false=>
  rw [hb,if_neg (by simp)] at hw
  subst hw
  rfl

end
end Go.Proofs.YtgdgkgmjpnbbcaaGreat
namespace Go.Proofs.YtgdgkgmjpnbbcaaGreat
open Go.RowKit
set_option linter.unusedSimpArgs false
set_option linter.unusedVariables false
set_option maxRecDepth 100000
set_option maxHeartbeats 8000000
theorem ZiW:∀ {ts xs:List RecD}{r:RecD},r∈Zd5 xs ts->r∈xs\/∃ t∈ts,r=seq1 t
 | [],xs,r,h=>.inl h
 | t::ts,xs,r,h=>by
  rcases ZiW (ts:=ts) (xs:=putD xs (seq1 t)) h with h | ⟨u,hu,e⟩
  ·rcases Ze5 h with h | h
   ·exact .inl h
   ·exact .inr ⟨t,by simp,h⟩
  ·exact .inr ⟨u,by simp [hu],e⟩
theorem ZnQ {xs:List RecD}{al:List Int}{v:Int}{r:RecD}(h:r∈beyD xs al v):r∈xs\/r.kind=2:=by
 unfold beyD at h
 rcases ZiW h with h | ⟨t,ht,e⟩
 ·exact .inl (List.mem_filter.1 h).1
 ·obtain ⟨a,to,c,_,e2,_⟩:=ZdD ht
  refine .inr ?_
  rw [e,(Zfi t).1,e2]
  rfl
def Told (ls:List Lk)(bs zs:List Bool)(N:Nat)(xs:List RecD):Prop:=∀ r∈xs,r.kind=1->r.near=ZbW ls bs zs r.owner r.area N
theorem Told.put {ls:List Lk}{bs zs:List Bool}{N:Nat}{xs:List RecD}{r:RecD}(h:Told ls bs zs N xs)(hr:r.kind=1->r.near=ZbW ls bs zs r.owner r.area N):Told ls bs zs N (putD xs r):=by
 intro q hq hk
 rcases Ze5 hq with h1 | h1
 ·exact h q h1 hk
 ·subst h1;exact hr hk
def Home (ls:List Lk)(N:Nat)(xs:List RecD):Prop:=∀ r∈xs,r.kind=1->r.area∈ZaC ls r.owner/\1<=r.owner/\r.owner<=(N:Int)
theorem Home.put {ls:List Lk}{N:Nat}{xs:List RecD}{r:RecD}(h:Home ls N xs)(hr:r.kind=1->r.area∈ZaC ls r.owner/\1<=r.owner/\r.owner<=(N:Int)):Home ls N (putD xs r):=by
 intro q hq hk
 rcases Ze5 hq with h1 | h1
 ·exact h q h1 hk
 ·subst h1;exact hr hk
theorem Zhh {ls:List Lk}{bs zs:List Bool}{N M:Nat}{v:Int}{xs:List RecD}(h:Home ls N xs)(hv:1<=v/\v<=(N:Int)):∀ j,j<=(ZaC ls v).length->Home ls N (Zgf ls bs zs M v (ZaC ls v) xs j)
 | 0,_=>h
 | j+1,hj=>by
  obtain⟨a,ha⟩:∃ a,(ZaC ls v)[j]? = some a:=⟨(ZaC ls v)[j],List.getElem?_eq_getElem (by omega)⟩
  rw [Zha ha];exact (Zhh h hv j (by omega)).put (fun _=>⟨List.mem_of_getElem? ha,hv⟩)
theorem ZhY {ls:List Lk}{bs zs:List Bool}{N M:Nat}:∀ k,k<=N->Home ls N (idA ls bs zs M k)
 | 0,_=>fun r hr=>by cases hr
 | k+1,hk=>by
  unfold idA
  split
  ·exact Zhh (ZhY k (by omega)) ⟨by omega,by omega⟩ _ (Nat.le_refl _)
  ·exact ZhY k (by omega)
theorem Zf8 {ls:List Lk}{N:Nat}{zs:List Bool}{ts:List Th}{xs:List RecD}(h:Home ls N xs):∀ k,Home ls N (idB ts zs xs k)
 | 0=>h
 | k+1=>by
  unfold idB
  split
  ·split
   ·exact (Zf8 h k).put (fun e=>by simp [ZbV] at e)
   ·exact Zf8 h k
  ·exact Zf8 h k
theorem ZhZ {ls:List Lk}{N:Nat}{zs:List Bool}{xs:List RecD}(h:Home ls N xs):∀ k,Home ls N (idC ls zs xs k)
 | 0=>h
 | k+1=>by
  unfold idC
  split
  ·intro r hr hk
   rcases ZnQ hr with h1 | h1
   ·exact ZhZ h k r h1 hk
   ·rw [hk] at h1;cases h1
  ·exact ZhZ h k
theorem Zkn {ls:List Lk}{N M:Nat}{zs:List Bool}{xs:List RecD}(h:Home ls N xs):∀ r,Home ls N (idR ls zs M xs r)
 | 0=>h
 | r+1=>ZhZ (Zkn h r) M
theorem Zk3 (ls:List Lk)(ts:List Th)(bs zs:List Bool)(N:Nat):Home ls N (Zc4 ls ts bs zs N):=Zkn (Zf8 (ZhY N (Nat.le_refl _)) _) 3
theorem Zme {ls:List Lk}{N:Nat}{xs:List RecD}(h:Home ls N xs){area:Int}{u:Nat}(hn:Zfy xs area (u:Int)=true):area∈ZaC ls (u:Int)/\1<=u/\u<=N:=by
 unfold Zfy Zg0 at hn
 rcases ZeQ xs (Zem area (u:Int)) with h1 | ⟨k,x,h1,h2,h3⟩
 ·rw [h1] at hn;simp at hn
 ·simp only [ZaN,Zem,Bool.and_eq_true,beq_iff_eq] at h3
  have h4:=h x (List.mem_of_getElem? h2) h3.1.1.2;rw [h3.1.1.1,h3.1.2] at h4;exact⟨h4.1,by omega,by omega⟩
structure RtD where
 thing:Bool
 to:Int
 kind:Int
 cost:Int
 far:Int
 hops:List Int
 deriving DecidableEq
def rtC (x:RtD)(v:Value):Array Value:=#[.bool x.thing,.int .i64 x.to,.int .i64 x.kind,.int .i64 x.cost,.int .i64 x.far,v]
def RtAt (W:World)(v:Value)(x:RtD)(B:Nat):Prop:=∃ v1,v=.agg (rtC x v1)/\ZaP W v1 x.hops B
theorem RtAt.then {W W':World}{v:Value}{x:RtD}(h:RtAt W v x W.heap.size)(hb:Below W.heap.size W W'):RtAt W' v x W'.heap.size:=by
 obtain⟨v1,hv,h1⟩:=h;exact⟨v1,hv,h1.then hb⟩
def ZfH (far:Bool)(c d:Int):Int:=if far then 4000000000000+c*1000000+d else 3000000000000+(c+d)
def rtOf (d:WayD):RtD:=if d.cost<4000000000000 then ⟨true,d.to,3,d.cost-3000000000000,0,d.hops⟩ else ⟨true,d.to,4,(d.cost-4000000000000)%1000000,(d.cost-4000000000000) / 1000000,d.hops⟩
def ZbQ (ds es:List WayD)(src o:Int):Option WayD:=if o=src then some ⟨src,0,[]⟩ else ZaQ (ds++es) o
theorem Zcu (ds es:List WayD)(o:Int):ZaQ (ds++es) o=(ZaQ ds o).or (ZaQ es o):=by unfold ZaQ;rw [List.find?_append]
def ZbY (ds es:List WayD)(src:Int)(r:RecD)(d:WayD):Prop:=r.kind=3/\r.cost<60000/\∃ v,ZbQ ds es src r.owner=some v/\d=⟨r.key,ZfH r.far r.cost v.cost,v.hops⟩
theorem ZiZ {ds es:List WayD}{src:Int}{r:RecD}{d e:WayD}(h:ZbY ds es src r d)(h':ZbY ds es src r e):d=e:=by
 obtain⟨_,_,v,h3,rfl⟩:=h;obtain⟨_,_,v',h3',rfl⟩:=h';rw [h3] at h3';cases h3'
 rfl
structure GoodT (d:WayD):Prop where
 node:1<=d.to/\d.to<=9
 rank:(3000000000000<=d.cost/\d.cost<=3000000061000)\/∃ c k:Int,0<=c/\c<=1000/\0<=k/\k<=60000/\d.cost=4000000000000+c*1000000+k
 asc:d.hops.Pairwise (· < ·)
 hop6:Hop6 d.hops
theorem GoodT.len {d:WayD}(h:GoodT d):d.hops.length<=6:=ZcE h.asc h.hop6
def Zdw (ds:List WayD):Prop:=∀ d∈ds,GoodW d
theorem ZcV {ds es:List WayD}{src o:Int}{v:WayD}(hd:Zdw ds)(he:Zdw es)(h:ZbQ ds es src o=some v):(0<=v.cost/\v.cost<=60000)/\v.hops.Pairwise (· < ·)/\Hop6 v.hops:=by
 unfold ZbQ at h
 split at h
 ·cases h
  exact⟨⟨by simp,by simp⟩,by simp,fun z hz=>by simp at hz⟩
 ·have hm:=(ZaM h).1
  have hg:GoodW v:=by
   rcases List.mem_append.1 hm with h1 | h1
   ·exact hd v h1
   ·exact he v h1
  exact⟨hg.cost,hg.asc,hg.hop6⟩
theorem Zd1 {xs:List RecD}{r:RecD}(hs:ZaE xs=true)(hr:r∈xs)(hk:r.kind=3)(hc:r.cost<60000):(1<=r.key/\r.key<=9)/\(1<=r.cost/\r.cost<=1000):=by
 unfold ZaE at hs;simp only [Bool.and_eq_true] at hs
 have hok:=Zdi hs.1.2 hr;unfold Za8 at hok;rw [if_neg (by omega),if_neg (by omega),if_pos hk] at hok
 simp only [Bool.and_eq_true,Bool.or_eq_true,inB,decide_eq_true_eq,beq_iff_eq] at hok
 omega
theorem ZdE {xs:List RecD}{ds es:List WayD}{src:Int}{r:RecD}{d:WayD}(hs:ZaE xs=true)(hr:r∈xs)(hd:Zdw ds)(he:Zdw es)(h:ZbY ds es src r d):GoodT d:=by
 obtain⟨h1,h2,v,h3,rfl⟩:=h;have hg:=ZcV hd he h3;have hb:=Zd1 hs hr h1 h2;refine⟨hb.1,?_,hg.2.1,hg.2.2⟩
 show (3000000000000<=ZfH r.far r.cost v.cost/\ZfH r.far r.cost v.cost<=3000000061000)\/∃ c k:Int,0<=c/\c<=1000/\0<=k/\k<=60000/\ZfH r.far r.cost v.cost=4000000000000+c*1000000+k
 unfold ZfH;cases r.far
 ·left
  rw [if_neg (by simp)]
  omega
 ·right
  rw [if_pos rfl];exact⟨r.cost,v.cost,by omega,by omega,by omega,by omega,rfl⟩
def Zda (xs:List RecD)(ds es:List WayD)(src to:Int)(d:WayD):Prop:=d.to=to/\∃ r∈xs,ZbY ds es src r d
theorem ZcY {xs:List RecD}{ds es:List WayD}{src to:Int}{d:WayD}(hs:ZaE xs=true)(hd:Zdw ds)(he:Zdw es)(h:Zda xs ds es src to d):GoodT d/\d.to=to:=by
 obtain⟨h1,r,hr,h2⟩:=h;exact⟨ZdE hs hr hd he h2,h1⟩
theorem Zay.putT {tog:WayD->WayD->WayD}(ht:Zjr tog){S:Int->WayD->Prop}{ds es:List WayD}{w:WayD}(h:Zay S ds)(hS:∀ to w,S to w->Hop6 w.hops)(hasc:w.hops.Pairwise (· < ·))(h6:Hop6 w.hops)(he:AscW es)(hf:∀ to,ZaQ es to=if to=w.to then Zel tog (ZaQ ds to) (some w) else ZaQ ds to):Zay (fun to d=>S to d\/(d=w/\w.to=to)) es:=by
 refine⟨he,fun to=>?_⟩
 rw [hf];by_cases e:to=w.to
 ·rw [if_pos e]
  refine ((h.2 to).add ht (fun v hv=>hS to v hv) e.symm hasc h6).congr (fun x=>?_)
  constructor
  ·rintro (h1 | h1)
   ·exact .inl h1
   ·exact .inr ⟨h1,e.symm⟩
  ·rintro (h1 | h1)
   ·exact .inl h1
   ·exact .inr h1.1
 ·rw [if_neg e]
  refine (h.2 to).congr (fun x=>⟨.inl,?_⟩)
  rintro (h1 | h1)
  ·exact h1
  ·exact absurd h1.2.symm e
theorem ZaF.goodT {to:Int}{S:WayD->Prop}{b:WayD}(h:ZaF to S (some b))(hS:∀ w,S w->GoodT w/\w.to=to):GoodT b:=by
 have h6:=h.hop6 (fun w hw=>(hS w hw).1.hop6)
 obtain⟨h1,⟨u,hu,e1⟩,h3,h4,h5⟩:=h;have hg:=hS u hu;exact⟨by rw [h1, <-hg.2];exact hg.1.node,by rw [<-e1];exact hg.1.rank,h4,h6⟩
theorem Zay.goodT {S:Int->WayD->Prop}{ds:List WayD}(h:Zay S ds)(hS:∀ to w,S to w->GoodT w/\w.to=to):∀ w∈ds,GoodT w:=by
 intro w hw;have h1:=h.2 w.to;rw [Zbw h.1 hw] at h1;exact h1.goodT (hS w.to)
theorem Ziz:∀ {l:List Int}{a:Int},l.Pairwise (· < ·)->(∀ z∈l,a<=z/\z<=9)->(l.length:Int)<=10-a\/l=[]
 | [],_,_,_=>.inr rfl
 | x::xs,a,h,hr=>by
  have h':=List.pairwise_cons.1 h;have hx:=hr x (by simp)
  rcases Ziz (a:=x+1) h'.2 (fun z hz=>⟨by have:=h'.1 z hz;omega,(hr z (by simp [hz])).2⟩) with h1 | h1
  ·left;simp;omega
  ·left;subst h1;simp;omega
theorem Zeh {ds:List WayD}(h:AscW ds)(hg:∀ w∈ds,1<=w.to/\w.to<=9):ds.length<=9:=by
 have h1:(ds.map (·.to)).Pairwise (· < ·):=by rw [List.pairwise_map];exact h
 rcases Ziz (a:=1) h1 (fun z hz=>by
  obtain⟨w,hw,rfl⟩:=List.mem_map.1 hz;exact hg w hw) with h2 | h2
 ·simp at h2;omega
 ·have:ds=[]:=by simpa using h2
  subst this;simp
def ZdI (kind src:Int)(ds:List WayD):List RtD:=(ds.filter (fun d=>d.to != src)).map (fun d=>⟨false,d.to,kind,d.cost,0,d.hops⟩)
def ZcD (xs:List RecD)(al:List Int)(border:Bool)(src:Int)(l:List RtD):Prop:=
 ∃ ds es ts,Zay (Zau xs al src) ds/\Zay (Zbz xs al border src) es/\Zay (Zda xs ds es src) ts/\l=ZdI 1 src ds++ZdI 2 src es++ts.map rtOf
theorem ZcD.unique {xs:List RecD}{al:List Int}{border:Bool}{src:Int}{l m:List RtD}(h:ZcD xs al border src l)(h':ZcD xs al border src m):l=m:=by
 obtain⟨ds,es,ts,h1,h2,h3,rfl⟩:=h;obtain⟨ds',es',ts',h1',h2',h3',rfl⟩:=h';have e1:=h1.unique h1';have e2:=h2.unique h2';subst e1;subst e2;rw [h3.unique h3']
abbrev QP:=RtD × Value
def encQ (p:QP):List Value:=[.bool p.1.thing,.int .i64 p.1.to,.int .i64 p.1.kind,.int .i64 p.1.cost,.int .i64 p.1.far,p.2]
def ZbB:RtD:=⟨false,0,0,0,0,[]⟩
theorem ZbR (p:QP):(encQ p).length=6:=rfl
def ZeO (W:World)(v:Value)(ps:List QP)(B:Nat):Prop:=Za5 encQ 6 W v ps B/\∀ p∈ps,ZaP W p.2 p.1.hops B
theorem ZeO.shape {W:World}{v:Value}{ps:List QP}{B:Nat}(h:ZeO W v ps B):∃ a cap,v=.slice a ps.length cap:=by
 obtain⟨⟨a,cap,h,_⟩,_⟩:=h;exact⟨a,cap,h⟩
theorem ZeO.later {W W':World}{v:Value}{ps:List QP}{B C:Nat}(h:ZeO W v ps B)(hb:Below C W W')(hBC:B<=C):ZeO W' v ps B:=
 ⟨ZaR.later h.1 hb hBC,fun p hp=>ZaR.later (h.2 p hp) hb hBC⟩
theorem ZeO.more {W:World}{v:Value}{ps:List QP}{B C:Nat}(h:ZeO W v ps B)(hBC:B<=C):ZeO W v ps C:=
 ⟨ZaR.more h.1 hBC,fun p hp=>ZaR.more (h.2 p hp) hBC⟩
theorem ZeO.then {W W':World}{v:Value}{ps:List QP}(h:ZeO W v ps W.heap.size)(hb:Below W.heap.size W W'):ZeO W' v ps W'.heap.size:=(h.later hb (Nat.le_refl _)).more hb.size
def Zbl (W:World)(lo hi:Nat)(p:QP):Prop:=W.ownsRow lo 3 1 p.2 p.1.hops.length (flat intE p.1.hops)/\∀ k,p.2.ownBlock=some k->k<hi
def Zdg (p q:QP):Prop:=∀ k,p.2.ownBlock=some k->q.2.ownBlock≠some k
structure RtsOwn (W:World) (lo hi:Nat) (v:Value) (ps:List QP):Prop where
 row:W.ownsRow lo 44 6 v ps.length (flat encQ ps)
 top:∀ k,v.ownBlock=some k->k<hi
 nears:∀ p∈ps,Zbl W lo hi p
 apart:ps.Pairwise Zdg
theorem Zbl.keep {W W':World}{lo hi:Nat}{p:QP}(h:Zbl W lo hi p)(hk:∀ k,lo<=k->k<hi->k<W.heap.size->W'.heap[k]? = W.heap[k]?):Zbl W' lo hi p:=
 ⟨Zao h.1 (fun k e=>hk k (h.1.lt k e).1 (h.2 k e) (h.1.lt k e).2),h.2⟩
theorem Zbl.wide {W:World}{lo hi lo' hi':Nat}{p:QP}(h:Zbl W lo hi p)(hl:lo'<=lo)(hh:hi<=hi'):Zbl W lo' hi' p:=
 ⟨Zah h.1 hl,fun k e=>Nat.lt_of_lt_of_le (h.2 k e) hh⟩
theorem Zbl.at {W:World}{lo hi:Nat}{p:QP}(h:Zbl W lo hi p):ZaP W p.2 p.1.hops hi:=by
 have h1:=Zar h.1;obtain⟨a,cap,hv,h2⟩:=h1;refine⟨a,cap,hv,?_⟩
 rcases h2 with h0 | ⟨b,off,ha,hb1,hx⟩
 ·exact .inl h0
 ·exact .inr ⟨b,off,ha,h.2 b (by rw [hv,ha];rfl),hx⟩
theorem RtsOwn.keep {W W':World}{lo hi:Nat}{v:Value}{ps:List QP}(h:RtsOwn W lo hi v ps)(hk:∀ k,lo<=k->k<hi->k<W.heap.size->W'.heap[k]? = W.heap[k]?):RtsOwn W' lo hi v ps where
 row:=Zao h.row (fun k e=>hk k (h.row.lt k e).1 (h.top k e) (h.row.lt k e).2)
 top:=h.top
 nears:=fun p hp=>(h.nears p hp).keep hk
 apart:=h.apart
theorem RtsOwn.below {W W':World}{lo hi B:Nat}{v:Value}{ps:List QP}(h:RtsOwn W lo hi v ps)(hb:Below B W W')(hB:hi<=B):RtsOwn W' lo hi v ps:=h.keep (fun k _ h2 _=>hb.block k (by omega))
theorem RtsOwn.wide {W:World}{lo hi lo' hi':Nat}{v:Value}{ps:List QP}(h:RtsOwn W lo hi v ps)(hl:lo'<=lo)(hh:hi<=hi'):RtsOwn W lo' hi' v ps where
 row:=Zah h.row hl
 top:=fun k e=>Nat.lt_of_lt_of_le (h.top k e) hh
 nears:=fun p hp=>(h.nears p hp).wide hl hh
 apart:=h.apart
theorem RtsOwn.at {W:World}{lo hi:Nat}{v:Value}{ps:List QP}(h:RtsOwn W lo hi v ps):ZeO W v ps hi:=by
 refine⟨?_,fun p hp=>(h.nears p hp).at⟩
 have h1:=Zar h.row;obtain⟨a,cap,hv,h2⟩:=h1;refine⟨a,cap,hv,?_⟩
 rcases h2 with h0 | ⟨b,off,ha,hb1,hx⟩
 ·exact .inl h0
 ·exact .inr ⟨b,off,ha,h.top b (by rw [hv,ha];rfl),hx⟩
theorem RtsOwn.frame {W W':World}{lo hi l2 h2:Nat}{v:Value}{ps:List QP}(h:RtsOwn W lo hi v ps)(hb:Frame l2 h2 W W')(hB:hi<=l2\/h2<=lo):RtsOwn W' lo hi v ps:=h.keep (fun k h1 h2 h3=>hb.block k h3 (by omega))
def totQ (ps:List QP):Nat:=(ps.map (fun p=>1+p.1.hops.length)).sum
theorem Zna (p:QP)(ps:List QP):totQ (p::ps)=1+p.1.hops.length+totQ ps:=by simp [totQ]
theorem Zoy (ps:List QP):ps.length<=totQ ps:=by
 induction ps with
 | nil=>simp [totQ]
 | cons p ps ih=>rw [Zna,List.length_cons];omega
theorem ZeO.cells {W:World}{v:Value}{ps:List QP}{B:Nat}(h:ZeO W v ps B)(i:Nat)(p:QP)(hp:ps[i]? = some p):
  ∃ b off cap,v=.slice (some ⟨b,off,none⟩) ps.length cap/\b<B/\W.cell? ⟨b,off+i*6,none⟩=some (.bool p.1.thing)/\W.cell? ⟨b,off+i*6+1,none⟩=some (.int .i64 p.1.to)/\W.cell? ⟨b,off+i*6+2,none⟩=some (.int .i64 p.1.kind)/\W.cell? ⟨b,off+i*6+3,none⟩=some (.int .i64 p.1.cost)/\W.cell? ⟨b,off+i*6+4,none⟩=some (.int .i64 p.1.far)/\W.cell? ⟨b,off+i*6+5,none⟩=some p.2/\ZaP W p.2 p.1.hops B:=by
 obtain⟨b,off,cap,hv,hb,hc⟩:=Za5.cell h.1 ZbR i p hp;exact⟨b,off,cap,hv,hb,hc 0 _ rfl,hc 1 _ rfl,hc 2 _ rfl,hc 3 _ rfl,hc 4 _ rfl,hc 5 _ rfl,h.2 p (List.mem_of_getElem? hp)⟩
theorem Tryz.infoRoute:(Tryz.prog.info? 44).map (fun i=>(i.zero,i.size,i.bytes))=some (some (.agg (rtC ZbB (.slice none 0 0))),6,64):=by kernel_rfl
def ZaU (ps:List QP):List RtD:=ps.map (·.1)
theorem Zg8 (ps:List QP):ps.Pairwise Zdg↔(ps.map (·.2)).Pairwise (fun a b:Value=>∀ k,a.ownBlock=some k->b.ownBlock≠some k):=by
 rw [List.pairwise_map];exact Iff.rfl
theorem ZlJ {ps:List QP}(h:ps.Pairwise Zdg){i k:Nat}{p q:QP}(hi:ps[i]? = some p)(hk:ps[k]? = some q)(hne:i≠k):Zdg p q:=by
 obtain⟨h1,e1⟩:=List.getElem?_eq_some_iff.1 hi;obtain⟨h2,e2⟩:=List.getElem?_eq_some_iff.1 hk;rw [List.pairwise_iff_getElem] at h
 rcases Nat.lt_or_ge i k with hl | hl
 ·have:=h i k h1 h2 hl
  rw [e1,e2] at this;exact this
 ·have:=h k i h2 h1 (by omega)
  rw [e1,e2] at this;exact fun j hj he=>this j he hj
theorem Zoo {ps:List QP}{k:Nat}{p q:QP}(hk:ps[k]? = some p)(h:q.2=p.2):(ps.set k q).map (·.2)=ps.map (·.2):=by
 apply List.ext_getElem?
 intro i;by_cases e:i=k
 ·subst e
  obtain⟨h1,e1⟩:=List.getElem?_eq_some_iff.1 hk;rw [List.getElem?_map,List.getElem?_set_self h1,List.getElem?_map,hk];simp [h]
 ·simp [List.getElem?_set_ne (Ne.symm e)]
theorem RtsOwn.turn {W W8:World}{lo hi g n cap k:Nat}{xs:List QP}{p q:QP}(h:RtsOwn W lo hi (.slice (some ⟨g,0,none⟩) n cap) xs)(hn:xs.length=n)(hk:xs[k]? = some p)(hq:q.2=p.2)
  (row:W8.ownsRow lo 44 6 (.slice (some ⟨g,0,none⟩) n cap) n (flat encQ (xs.set k q))) (near:W8.ownsRow lo 3 1 q.2 q.1.hops.length (flat intE q.1.hops))
  (hkeep:∀ j,j<W.heap.size->j≠g->some j≠p.2.ownBlock->W8.heap[j]? = W.heap[j]?):RtsOwn W8 lo hi (.slice (some ⟨g,0,none⟩) n cap) (xs.set k q) where
 row:=by rw [List.length_set,hn];exact row
 top:=h.top
 apart:=by rw [Zg8,Zoo hk hq, <-Zg8];exact h.apart
 nears:=by
  intro r hr;obtain⟨i,hi,e⟩:=List.getElem_of_mem hr;have hr2:(xs.set k q)[i]? = some r:=by rw [<-e];exact List.getElem?_eq_getElem hi
  by_cases ek:i=k
  ·subst ek
   rw [List.getElem?_set_self (by simpa using hi)] at hr2
   cases hr2
   refine⟨near,?_⟩
   rw [hq];exact (h.nears p (List.mem_of_getElem? hk)).2
  ·rw [List.getElem?_set_ne (Ne.symm ek)] at hr2
   have ho:=h.nears r (List.mem_of_getElem? hr2);refine⟨Zao ho.1 (fun j hj=>?_),ho.2⟩
   refine hkeep j (ho.1.lt j hj).2 ?_ ?_
   ·rintro rfl
    obtain⟨cur,hh⟩:∃ cur,W.heap[j]? = some (.cells cur 44 (0,0)):=by
     rcases h.row.2 with ⟨h0,_⟩ | ⟨g',cap',cur',hv',_,hh',_⟩
     ·cases h0
     ·cases hv';exact⟨cur',hh'⟩
    rcases ho.1.2 with ⟨h0,_⟩ | ⟨g',cap',cur',hv',_,hh',_⟩
    ·rw [h0] at hj;simp [Value.ownBlock] at hj
    ·rw [hv'] at hj
     simp [Value.ownBlock] at hj
     subst hj;rw [hh] at hh';simp at hh'
   ·intro he
    exact ZlJ h.apart hr2 hk ek j hj he.symm

theorem Zeg {kind src:Int}{ds:List WayD}{r:RtD}(h:r∈ZdI kind src ds):∃ d∈ds,d.to≠src/\r=⟨false,d.to,kind,d.cost,0,d.hops⟩:=by
 unfold ZdI at h;obtain⟨d,hd,rfl⟩:=List.mem_map.1 h;obtain⟨h1,h2⟩:=List.mem_filter.1 hd;exact⟨d,h1,by simpa using h2,rfl⟩
theorem Zhx (d:WayD):(rtOf d).thing=true/\(rtOf d).to=d.to/\((rtOf d).kind=3\/(rtOf d).kind=4):=by
 unfold rtOf
 split
 ·exact ⟨rfl,rfl,.inl rfl⟩
 ·exact ⟨rfl,rfl,.inr rfl⟩
end Go.Proofs.YtgdgkgmjpnbbcaaGreat
