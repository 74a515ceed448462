/-
  Parts.
-/
import Derived.Test.YtikloccefmofdaaGreatFi18
namespace Go.Proofs.YtikloccefmofdaaGreat
open Go.RowKit
set_option linter.unusedSimpArgs false
set_option linter.unusedVariables false
set_option maxRecDepth 100000
set_option maxHeartbeats 8000000
variable {area owner:Int}{xs:List RecD}{k src u v:Nat}{F:Nat->Bool}{c:Nat->Int}{h:Nat->List Int}{L:Nat->Nat->Int}
def ZgB (area owner:Int)(x:RecD):Bool:=x.area==area&&x.kind==1&&x.owner==owner
def plN (xs:List RecD)(area owner:Int):Option Nat:=xs.findIdx? (ZgB area owner)
def plV2:Option Nat->Value
 | some k=>.tuple #[.int .i64 (k:Int),.bool true]
 | none=>.tuple #[.int .i64 0,.bool false]
theorem Zpi {x:RecD}(hk:xs[k]? = some x)(hs:ZgB area owner x=true)(hall:∀ j,j<k->∀ y,xs[j]? = some y->ZgB area owner y=false):plN xs area owner=some k:=by
 obtain⟨h1,e1⟩:=YAD.1 hk;unfold plN;rw [List.findIdx?_eq_some_iff_getElem];refine⟨h1,by rw [e1];exact hs,fun j hj=>?_⟩;have:=hall j hj xs[j] (YAA (by omega));rw [this];simp
theorem ZqY (hall:∀ j,j<xs.length->∀ y,xs[j]? = some y->ZgB area owner y=false):plN xs area owner=none:=by
 unfold plN;rw [List.findIdx?_eq_none_iff];intro x hx;obtain⟨j,hj,e⟩:=List.mem_iff_getElem.1 hx;exact hall j hj x (by rw [YAA hj,e])
theorem ZpT {x:RecD}{f:RecD->Bool}(h:∀ j,j<k->∀ y,xs[j]? = some y->f y=false)(hk:xs[k]? = some x)(hx:f x=false):∀ j,j<k+1->∀ y,xs[j]? = some y->f y=false:=by
 intro j hj y hy;by_cases e:j=k
 ·subst e;rw [hk] at hy;cases hy;exact hx
 ·exact h j (by omega) y hy
theorem Zik (v:Value)(ps:List RP)(hi:Nat)(area owner:Int)(w:World)(hv:RecsIn w hi v ps)(hhi:hi<=w.heap.size)(hn:tot ps<=1048576):
  Calls Tryz.prog 112 #[v,.int .i64 area,.int .i64 owner] w fun e w'=>e=.returned (plV2 (plN (fsts ps) area owner))/\Below w.heap.size w w':=by
 have hnl:=Zbj ps;obtain⟨R,hR⟩:∃ R,R=plN (fsts ps) area owner:=⟨_,rfl⟩;rw [<-hR];have HR:=hide hR;clear hR;obtain⟨a1,c1,rfl⟩:=Zac hv.row;have HV:=hide hv;clear hv
 go_enter Tryz.func112,Tryz.ntmps112
 go_wp2
 go_loopw [11] (fun i wr=>∃ (k:Nat),k<=ps.length/\i=.int .i64 (k:Int)/\Hid (∀ j,j<k->∀ y,(fsts ps)[j]? = some y->ZgB area owner y=false)/\Below w.heap.size w wr) (fun i _=>ps.length-(intOf i).toNat)
 case atStart=>exact ⟨0,by omega,rfl,hide (by omega),YAC _ _⟩
 case round=>
  obtain⟨k,hk,rfl,HALL,hnx⟩:=hrel;by_cases hlt:k<ps.length
  ·obtain ⟨p,hp⟩:∃ p,ps[k]? = some p:=⟨ps[k],YAA hlt⟩;have hat:=HV.out.at;obtain⟨b,off,cap',hve,hbb,c0,c1,c2,_⟩:=hat.cells k p hp;cases hve;replace c0:=(hnx.cell (YAB hbb hhi)).trans c0;replace c1:=(hnx.cell (YAB hbb hhi)).trans c1;replace c2:=(hnx.cell (YAB hbb hhi)).trans c2;have hki:(0:Int)<=(k:Int):=by omega
   have hkj:(k:Int)<(ps.length:Int):=by omega
   have HPP:=hide (Zbf hp);obtain⟨x0,hx0⟩:∃ x,x=p.1.area:=⟨_,rfl⟩;obtain⟨x1,hx1⟩:∃ x,x=p.1.kind:=⟨_,rfl⟩;obtain⟨x2,hx2⟩:∃ x,x=p.1.owner:=⟨_,rfl⟩;have HM:=hide (show ZgB area owner p.1=(x0==area&&x1==1&&x2==owner) by rw [hx0,hx1,hx2];rfl);rw [<-hx0] at c0;rw [<-hx1] at c1;rw [<-hx2] at c2;clear hp hat hx0 hx1 hx2;have NXT:=hide (fun (e:(x0==area&&x1==1&&x2==owner)=false)=>ZpT HALL.out HPP.out (HM.out.trans e));by_cases h0:x0=area
   ·by_cases h1:x1=1
    ·by_cases h2:x2=owner
     ·have HF:=hide (show R=some k by rw [HR.out];exact Zpi HPP.out (by rw [HM.out];simp [h0,h1,h2]) HALL.out);have hRR:=HF.out;subst hRR;subst h0 h1 h2;clear NXT HM;go_wp2
      go_returns
      exact⟨rfl,hnx⟩
     ·have HN:=hide (NXT.out (by simp [h2]));have hb2:(x2==owner)=false:=by simpa using h2
      subst h0 h1;clear NXT HM;go_wp2;go_roundw
      case rel=>exact ⟨k+1,by omega,by go_num,HN,hnx⟩
      case measure=>simp [intOf];omega
    ·have HN:=hide (NXT.out (by simp [h1]));have hb1:(x1==1)=false:=by simpa using h1
     subst h0;clear NXT HM;go_wp2;go_roundw
     case rel=>exact ⟨k+1,by omega,by go_num,HN,hnx⟩
     case measure=>simp [intOf];omega
   ·have HN:=hide (NXT.out (by simp [h0]));have hb0:(x0==area)=false:=by simpa using h0
    clear NXT HM;go_wp2;go_roundw
    case rel=>exact ⟨k+1,by omega,by go_num,HN,hnx⟩
    case measure=>simp [intOf];omega
  ·have HF:=hide (show R=none by rw [HR.out];exact ZqY (fun j hj=>HALL.out j (by simp [fsts] at hj;omega)));have hRR:=HF.out;subst hRR;go_wp2
   go_returns
   exact⟨rfl,hnx⟩
def ZdZ (xs:List RecD)(area owner to:Int):Option Int:=match plN xs area owner with
 | some k=>match xs[k]? with
  | some x=>(x.near.find? (fun n=>n.to==to)).map (·.c)
  | none=>none
 | none=>none
def ZpL:Option Int->Value
 | some c=>.tuple #[.int .i64 c,.bool true]
 | none=>.tuple #[.int .i64 0,.bool false]
theorem Zph (h:plN xs area owner=some k):∃ x,xs[k]? = some x/\ZgB area owner x=true/\∀ j,j<k->∀ y,xs[j]? = some y->ZgB area owner y=false:=by
 unfold plN at h;obtain⟨h1,h2,h3⟩:=List.findIdx?_eq_some_iff_getElem.1 h;refine⟨xs[k],YAA h1,h2,fun j hj y hy=>?_⟩;have h4:=h3 j hj;rw [YAA (by omega)] at hy;cases hy;simpa using h4
theorem Zqd {ns:List Nr}{n:Nr}{b:Int}(h:ns[k]? = some n)(hno:∀ q∈ns.take k,q.to≠b)(hb:n.to=b):ns.find? (fun x=>x.to==b)=some n:=by
 obtain⟨hk,e1⟩:=YAD.1 h;rw [List.find?_eq_some_iff_append];refine⟨by simpa using hb,ns.take k,ns.drop (k+1),?_,?_⟩
 ·rw [<-e1, <-YAl hk,YAc]
 ·intro x hx;simpa using hno x hx
theorem ZmL (v:Value)(ps:List RP)(hi:Nat)(area owner to:Int)(w:World)(hv:RecsIn w hi v ps)(hhi:hi<=w.heap.size)(hn:tot ps<=1048576):
  Calls Tryz.prog 164 #[v,.int .i64 area,.int .i64 owner,.int .i64 to] w fun e w'=>e=.returned (ZpL (ZdZ (fsts ps) area owner to))/\Below w.heap.size w w':=by
 have hnl:=Zbj ps;obtain⟨R,hR⟩:∃ R,R=ZdZ (fsts ps) area owner to:=⟨_,rfl⟩;rw [<-hR];have HP:=hide (Zik v ps hi area owner w hv hhi hn);obtain⟨a1,c1,rfl⟩:=Zac hv.row;unfold ZdZ at hR;cases hpl:plN (fsts ps) area owner with
 | none=>
  rw [hpl] at HP hR;have hRR:R=none:=hR;subst hRR;unfold plV2 at HP;unfold ZpL;clear hR hv
  go_enter Tryz.func164,Tryz.ntmps164
  go_wp2_with fail
  refine HP.out.mono ?_;rintro e w1 ⟨rfl,b1⟩;go_wp2
  go_returns
  exact⟨rfl,b1⟩
 | some k=>
  rw [hpl] at HP hR;obtain⟨x,hx,_,_⟩:=Zph hpl;simp only [hx] at hR;obtain⟨p,hp,rfl⟩:=Zh4 hx;have hR2:R=(p.1.near.find? (fun n=>n.to==to)).map (·.c):=hR;have HR:=hide hR2;clear hR hR2;unfold plV2 at HP;have hlt:k<ps.length:=(YAD.1 hp).1;obtain⟨b,off,cap',hve,hbb,_,_,_,_,_,c5,_,_,hnr⟩:=hv.at.cells k p hp;cases hve;obtain⟨pa,pc,hpn⟩:=Zat.shape hnr;rw [hpn] at c5 hnr;have hnl2:p.1.near.length<=1048576:=by have:=Zem (YAG hp);omega
  have HNR:=hide hnr;have hki:(0:Int)<=(k:Int):=by omega
  have hkj:(k:Int)<(ps.length:Int):=by omega
  obtain⟨ns,hns⟩:∃ ns,ns=p.1.near:=⟨_,rfl⟩;rw [<-hns] at HR c5 HNR hnl2;clear hx hp hv hnr hpn hns hpl
  go_enter Tryz.func164,Tryz.ntmps164
  go_wp2_with fail
  refine HP.out.mono ?_;rintro e w1 ⟨rfl,b1⟩;replace c5:=(b1.cell (YAB hbb hhi)).trans c5;have N1:=hide (Zav.later HNR.out b1 hhi);go_wp2
  go_loopw [29] (fun i wr=>∃ (j:Nat),j<=ns.length/\i=.int .i64 (j:Int)/\Hid (∀ q∈ns.take j,q.to≠to)/\Below w1.heap.size w1 wr) (fun i _=>ns.length-(intOf i).toNat)
  case atStart=>exact ⟨0,by omega,rfl,hide (by simp),YAC _ _⟩
  case round=>
   obtain⟨j,hj,rfl,HNO,hnx⟩:=hrel;have hs1:=b1.size;have B:Below w.heap.size w wr:=b1.trans (hnx.mono hs1);have hsB:=B.size;have hsx:=hnx.size;by_cases hjl:j<ns.length
   ·obtain ⟨n,hnj⟩:∃ n,ns[j]? = some n:=⟨ns[j],YAA hjl⟩;obtain⟨b2,off2,cp,hve,hbb2,d0,d1⟩:=Zat.cells (Zav.later N1.out hnx (by omega)) j n hnj;cases hve;have hji:(0:Int)<=(j:Int):=by omega
    have hjj:(j:Int)<(ns.length:Int):=by omega
    by_cases hto:n.to=to
    ·have HF:=hide (show R=some n.c by rw [HR.out,Zqd hnj HNO.out hto];rfl);have hRR:=HF.out;subst hRR;subst hto;clear hnj;go_wp2
     go_returns
     exact⟨rfl,B.alloc (by omega) _⟩
    ·have HN:=hide (ZkE hnj HNO.out hto);have hb0:(n.to==to)=false:=by simpa using hto
     clear hnj;go_wp2;go_roundw
     case rel=>exact ⟨j+1,by omega,by go_num,HN,hnx.alloc (by omega) _⟩
     case measure=>simp [intOf];omega
   ·have HF:=hide (show R=none by
     rw [HR.out];have h:=HNO.out;rw [YAL (by omega)] at h;rw [List.find?_eq_none.2 (fun x hx=>by simpa using h x hx)];rfl)
    have hRR:=HF.out;subst hRR;go_wp2
    go_returns
    exact⟨rfl,B⟩
def Ze4 (xs:List RecD)(area a b:Int):Int:=match ZdZ xs area b a with
 | some _=>match ZdZ xs area a b with
  | some c=>c
  | none=>0
 | none=>0
theorem Zli (v:Value)(ps:List RP)(hi:Nat)(area a b:Int)(w:World)(hv:RecsIn w hi v ps)(hhi:hi<=w.heap.size)(hn:tot ps<=1048576):
  Calls Tryz.prog 143 #[v,.int .i64 area,.int .i64 a,.int .i64 b] w fun e w'=>e=.returned (.int .i64 (Ze4 (fsts ps) area a b))/\Below w.heap.size w w':=by
 have H1:=hide (ZmL v ps hi area b a w hv hhi hn);have H2:=hide (fun W (hb:Below w.heap.size w W)=>ZmL v ps hi area a b W (hv.below hb hhi) (YAK hhi hb.size) hn);clear hv;unfold Ze4;cases e1:ZdZ (fsts ps) area b a with
 | none=>
  rw [e1] at H1;unfold ZpL at H1
  go_enter Tryz.func143,Tryz.ntmps143
  go_wp2_with fail
  refine H1.out.mono ?_;rintro e w1 ⟨rfl,b1⟩;go_wp2;go_ret;exact⟨rfl,b1⟩
 | some c=>
  rw [e1] at H1;cases e2:ZdZ (fsts ps) area a b with
  | none=>
   rw [e2] at H2;unfold ZpL at H1 H2
   go_enter Tryz.func143,Tryz.ntmps143
   go_wp2_with fail
   refine H1.out.mono ?_;rintro e w1 ⟨rfl,b1⟩
   go_wp2_with fail
   refine (H2.out _ b1).mono ?_;rintro e w2 ⟨rfl,b2⟩;have B2:Below w.heap.size w w2:=b1.trans (b2.mono b1.size);go_wp2;go_ret;exact⟨rfl,B2⟩
  | some c2=>
   rw [e2] at H2;unfold ZpL at H1 H2
   go_enter Tryz.func143,Tryz.ntmps143
   go_wp2_with fail
   refine H1.out.mono ?_;rintro e w1 ⟨rfl,b1⟩
   go_wp2_with fail
   refine (H2.out _ b1).mono ?_;rintro e w2 ⟨rfl,b2⟩;have B2:Below w.heap.size w w2:=b1.trans (b2.mono b1.size);go_wp2;go_ret;exact⟨rfl,B2⟩
def Zb4 (F:Nat->Bool):Nat:=(F 1).toNat+(F 2).toNat+(F 3).toNat+(F 4).toNat+(F 5).toNat+(F 6).toNat
theorem Zge (h:1<=u/\u<=6):u=1\/u=2\/u=3\/u=4\/u=5\/u=6:=by omega
theorem ZdN (hu:1<=u/\u<=6)(hF:F u=false):Zb4 (fun v=>F v||v==u)=Zb4 F+1:=by
 unfold Zb4;rcases Zge hu with rfl | rfl | rfl | rfl | rfl | rfl <;> simp [hF] <;> omega
theorem ZiQ (F:Nat->Bool):Zb4 F<=6:=by
 unfold Zb4;have h1:=Bool.toNat_le (F 1);have h2:=Bool.toNat_le (F 2);have h3:=Bool.toNat_le (F 3);have h4:=Bool.toNat_le (F 4);have h5:=Bool.toNat_le (F 5);have h6:=Bool.toNat_le (F 6);omega
theorem Zoa (h:Zb4 F=6)(hu:1<=u/\u<=6):F u=true:=by
 cases e:F u with
 | true=>rfl
 | false=>
  have:=ZdN hu e;have:=ZiQ (fun v=>F v||v==u);omega
theorem Zg0 :Zb4 (fun _=>false)=0:=rfl
def Zcc (c:Nat->Int)(h:Nat->List Int):Nat->List WayD
 | 0=>[]
 | k+1=>Zcc c h k++(if 0<=c (k+1) then [⟨((k+1:Nat):Int),c (k+1),h (k+1)⟩] else [])
theorem Zh0 {d:Nat->Int}{g:Nat->List Int}(e:∀ v,(0<=c v->d v=c v/\g v=h v)/\(0<=d v->0<=c v)):∀ k,Zcc c h k=Zcc d g k
 | 0=>rfl
 | k+1=>by
  unfold Zcc;rw [Zh0 e k];congr 1;by_cases h0:0<=c (k+1)
  ·have:=(e (k+1)).1 h0;rw [if_pos h0,if_pos (by omega),this.1,this.2]
  ·rw [if_neg h0,if_neg (fun hc=>h0 ((e (k+1)).2 hc))]
theorem Fix.coll {d:Nat->Int}{g:Nat->List Int}(A:Fix L src c h)(B:Fix L src d g):Zcc c h 6=Zcc d g 6:=by
 refine Zh0 (fun v=>⟨fun h0=>⟨A.cost B v h0,A.hops B v h0⟩,fun h0=>?_⟩) 6;have:=B.cost A v h0;omega
def ZaX (xs:List RecD)(area src:Int)(ds:List WayD):Prop:=
 if (Zax xs&&inB src 1 6&&Zdt xs area src)=true then ∃ c h,Fix (Zb3 xs area) src.toNat c h/\ds=Zcc c h 6 else ds=[]
theorem ZaX.unique {src:Int}{ds es:List WayD}(h1:ZaX xs area src ds)(h2:ZaX xs area src es):ds=es:=by
 unfold ZaX at h1 h2
 split at h1
 ·rename_i e
  rw [if_pos e] at h2;obtain⟨c,h,A,rfl⟩:=h1;obtain⟨d,g,B,rfl⟩:=h2;exact A.coll B
 ·rename_i e
  rw [if_neg e] at h2;rw [h1,h2]
theorem Zfr (c:Nat->Int)(h:Nat->List Int)(hv:1<=v):Zcc c h v=Zcc c h (v-1)++(if 0<=c v then [⟨(v:Int),c v,h v⟩] else []):=by
 obtain⟨k,rfl⟩:∃ k,v=k+1:=⟨v-1,by omega⟩;rfl
theorem Zl6 (c:Nat->Int)(h:Nat->List Int):∀ k,(Zcc c h k).length<=k
 | 0=>by simp [Zcc]
 | k+1=>by
  unfold Zcc;have:=Zl6 c h k;rw [YAN]
  split <;> simp <;> omega
theorem ZoU {j:Nat}(hu:0<=c u):mixC L c u j u=c u:=by
 unfold mixC
 split
 ·exact ZdT hu (Int.le_refl _)
 ·rfl
theorem Zfb (h0:0<=c v)(hv:c v<=c u):ZbG L src c h u v=h v/\Zaz L c u v=c v:=by
 by_cases hl:0<L u v
 ·exact ZdU h0 (by omega)
 ·exact Zfd hl
theorem Zlv {j:Nat}(hu:0<=c u):mixH L src c h u j u=h u:=by
 unfold mixH
 split
 ·exact (Zfb hu (Int.le_refl _)).1
 ·rfl
theorem Zgx {B:Int}(h:∀ v,c v<=B)(hL:∀ u v,L u v<=1000):Zaz L c u v<=B+1000:=by
 unfold Zaz;have:=h v;have:=h u;have:=hL u v
 split <;> omega
def ZkT (F:Nat->Bool)(c:Nat->Int)(v a:Nat):Prop:=
 (a=0/\∀ x,1<=x->x<v->F x=false->c x<0)\/(1<=a/\a<v/\F a=false/\0<=c a/\∀ x,1<=x->x<v->F x=false->0<=c x->c a<=c x)
theorem Zgd {a:Nat}(h:ZkT F c v a)(hs:F v=true\/c v<0\/(1<=a/\c a<=c v)):ZkT F c (v+1) a:=by
 rcases h with ⟨h1,h2⟩ | ⟨h1,h2,h3,h4,h5⟩
 ·refine .inl ⟨h1,fun x hx1 hx2 hF=>?_⟩;by_cases e:x=v
  ·subst e;rcases hs with h | h | h
   ·rw [hF] at h;cases h
   ·exact h
   ·omega
  ·exact h2 x hx1 (by omega) hF
 ·refine .inr ⟨h1,by omega,h3,h4,fun x hx1 hx2 hF hc=>?_⟩;by_cases e:x=v
  ·subst e;rcases hs with h | h | h
   ·rw [hF] at h;cases h
   ·omega
   ·exact h.2
  ·exact h5 x hx1 (by omega) hF hc
theorem Zic {a:Nat}(h:ZkT F c v a)(h1v:1<=v)(hF:F v=false)(hc:0<=c v)(hs:a=0\/c v<c a):ZkT F c (v+1) v:=by
 refine .inr ⟨h1v,by omega,hF,hc,fun x hx1 hx2 hFx hcx=>?_⟩;by_cases e:x=v
 ·subst e;omega
 ·rcases h with ⟨h1,h2⟩ | ⟨h1,h2,h3,h4,h5⟩
  ·have:=h2 x hx1 (by omega) hFx;omega
  ·have:=h5 x hx1 (by omega) hFx hcx;omega
structure AtRound (L:Nat->Nat->Int) (src:Nat) (F:Nat->Bool) (c:Nat->Int) (h:Nat->List Int) (r:Nat):Prop where
 inv:Inv L src F c h
 bnd:∀ v,c v<=1000*(Zb4 F:Int)
 at':Zb4 F+1=r\/(r=7/\∀ v,0<=c v->F v=true)
theorem AtRound.init (hs:Zca src):AtRound L src (fun _=>false) (fun v=>if v=src then 0 else -1) (fun _=>[]) 1:=by
 refine⟨Inv.init hs,fun v=>?_,.inl rfl⟩;rw [Zg0];show (if v=src then (0:Int) else -1)<=_
 split <;> omega
theorem AtRound.fin (a:AtRound L src F c h 7):Fix L src c h/\∀ v,F v=true↔0<=c v:=by
 have hf:∀ v,0<=c v->F v=true:=by
  rcases a.at' with h1 | ⟨_,h1⟩
  ·intro v hv;exact Zoa (by omega) (a.inv.cnode v hv)
  ·exact h1
 exact⟨⟨F,a.inv,hf⟩,fun v=>⟨fun hv=>(a.inv.fnode v hv).2,hf v⟩⟩
theorem AtRound.none {r:Nat}(a:AtRound L src F c h r)(hm:ZkT F c 7 0):AtRound L src F c h 7:=by
 refine⟨a.inv,a.bnd,.inr ⟨rfl,fun v hv=>?_⟩⟩;have hn:=a.inv.cnode v hv;unfold Zca at hn;cases e:F v with
 | true=>rfl
 | false=>
  rcases hm with ⟨_,h2⟩ | ⟨h1,_⟩
  ·have:=h2 v hn.1 (by omega) e;omega
  ·omega
theorem AtRound.next {r:Nat}(a:AtRound L src F c h r)(hL:Links L 1000)(hr:r<7)(hm:ZkT F c 7 u)(hu:1<=u):AtRound L src (fun v=>F v||v==u) (fun v=>Zaz L c u v) (fun v=>ZbG L src c h u v) (r+1):=by
 rcases hm with ⟨h1,_⟩ | ⟨h1,h2,h3,h4,h5⟩
 ·omega
 ·have hcard:Zb4 (fun v=>F v||v==u)=Zb4 F+1:=ZdN ⟨h1,by omega⟩ h3;refine⟨a.inv.step hL h3 h4 (fun v hv hc=>?_) (fun v=>Zfe a.inv hL h4 v),fun v=>?_,.inl ?_⟩
  ·have hn:=a.inv.cnode v hc;unfold Zca at hn;exact h5 v hn.1 (by omega) hv hc
  ·rw [hcard];have:=Zgx (L:=L) (u:=u) (v:=v) a.bnd hL.le;omega
  ·rw [hcard];rcases a.at' with h6 | ⟨h6,_⟩
   ·omega
   ·omega
theorem Zf0 (W:World)(lo:Nat)(hb:lo<=W.heap.size):WaysOwn (W.alloc (.cells #[] 108)) lo (W.alloc (.cells #[] 108)).heap.size (.slice (some ⟨W.heap.size,0,none⟩) 0 0) [] where
 row:=World.ownsRow_lit W #[] 0 hb (by unfold maxLen;omega) (by simp)
 top:=by intro k hk;simp [Value.ownBlock] at hk;subst hk;simp
 nears:=by simp
 apart:=by simp
end Go.Proofs.YtikloccefmofdaaGreat
namespace Go.Proofs.YtikloccefmofdaaGreat
open Go.RowKit

theorem ZcG {x y z:RecD}(h1:Zak x y=true)(h2:Zak y z=true):Zak x z=true:=by
 unfold Zak at *;simp only [YAv,YAJ,YAS,beq_iff_eq] at *;omega

theorem Zfn {x y z:RecD}(h1:Zap x y=true)(h2:Zak x z=true):Zak y z=true:=by
 unfold Zak Zap at *;simp only [YAv,YAJ,YAS,beq_iff_eq] at *;omega

theorem Zbq {x y:RecD}(h1:Zap x y=true):Zak x y=false/\Zak y x=false:=by
 unfold Zak Zap at *;simp only [Bool.or_eq_false_iff,Bool.and_eq_false_iff,decide_eq_false_iff_not,beq_eq_false_iff_ne,YAJ,beq_iff_eq] at *;omega

theorem ZiK (x y:RecD):Zak x y=true\/Zap x y=true\/Zak y x=true:=by
 unfold Zak Zap;simp only [YAv,YAJ,YAS,beq_iff_eq];omega

theorem Zef (x y:RecD):ordR x y<0↔Zak x y=true:=by
 rw [<-ZgM];simp

theorem Zkr (x y:RecD):ordR x y=0↔Zap x y=true:=by
 unfold ordR cmpK Zap;simp only [YAJ,beq_iff_eq];by_cases h1:x.area=y.area
 ·rw [if_pos (Zba.2 h1)];by_cases h2:x.kind=y.kind
  ·rw [if_pos (Zba.2 h2)];by_cases h3:x.owner=y.owner
   ·rw [if_pos (Zba.2 h3),Zba];simp [h1,h2,h3]
   ·rw [if_neg (fun h=>h3 (Zba.1 h)),Zba];simp [h3]
  ·rw [if_neg (fun h=>h2 (Zba.1 h)),Zba];simp [h2]
 ·rw [if_neg (fun h=>h1 (Zba.1 h)),Zba];simp [h1]

def Asc (xs:List RecD):Prop:=xs.Pairwise (fun x y=>Zak x y=true)

theorem asc_of {xs:List RecD}(h:ascB ordR xs=true):Asc xs:=by
 unfold Asc;rw [YAa];have step:∀ i (h2:i+1<xs.length),Zak xs[i] xs[i+1]=true:=by
  intro i h2;have h3:=List.all_eq_true.1 h (i+1) (List.mem_range.2 h2);rw [ZbX (YAA (by omega)) (YAA h2),ZgM] at h3;exact h3
 have main:∀ d i (h2:i+1+d<xs.length),Zak xs[i] (xs[i+1+d])=true:=by
  intro d
  induction d with
  | zero=>intro i h2;exact step i h2
  | succ d ih=>intro i h2;exact ZcG (ih i (by omega)) (step (i+1+d) h2)
 intro i j hi hj hij;have h2:=main (j-i-1) i (by omega);have e:i+1+(j-i-1)=j:=by omega
 simp only [e] at h2;exact h2

theorem Zl2 {xs:List RecD}(h:Asc xs):ascB ordR xs=true:=by
 unfold Asc at h;rw [YAa] at h;refine Za4 fun j hj=>?_;cases j with
 | zero=>rfl
 | succ k=>
  rw [ZbX (YAA (by omega)) (YAA hj),ZgM];exact h k (k+1) (by omega) hj (by omega)

theorem ZiI {xs:List RecD}(h:Asc xs)(r:RecD):∀ s t,s<=t->t<xs.length->ltAt xs r t->ltAt xs r s:=by
 intro s t hst ht hl;unfold Asc at h;rw [YAa] at h;have h1:=(Zc1 (YAA ht)).1 hl;refine (Zc1 (YAA (by omega))).2 ?_;by_cases e:s=t
 ·subst e;exact h1
 ·rw [Zef] at h1 |-
  exact ZcG (h s t (by omega) ht (by omega)) h1

def putD (xs:List RecD)(r:RecD):List RecD:=xs.filter (fun x=>Zak x r)++[r]++xs.filter (fun x=>Zak r x)

theorem ZfT (ps:List RP)(r:RP):fsts (putL ps r)=putD (fsts ps) r.1:=by
 unfold putL putD fsts;simp [List.filter_map,Function.comp_def]

section
variable {xs:List RecD} {r:RecD} {i:Nat}

theorem Zk7 (hi:i<=xs.length)(h1:∀ t,t<i->ltAt xs r t)(h2:∀ t,i<=t->t<xs.length->¬ltAt xs r t):xs.filter (fun x=>Zak x r)=xs.take i:=by
 conv=>lhs;rw [<-YAc i xs]
 rw [List.filter_append];have e1:(xs.take i).filter (fun x=>Zak x r)=xs.take i:=by
  rw [List.filter_eq_self];intro x hx;obtain⟨t,ht,e⟩:=List.getElem_of_mem hx;rw [YAV] at ht;rw [List.getElem_take] at e;have:=(Zc1 (YAA (show t<xs.length by omega))).1 (h1 t (by omega));rw [e,Zef] at this;exact this
 have e2:(xs.drop i).filter (fun x=>Zak x r)=[]:=by
  rw [List.filter_eq_nil_iff];intro x hx hb;obtain⟨t,ht,e⟩:=List.getElem_of_mem hx;rw [YAi] at ht;rw [List.getElem_drop] at e;refine h2 (i+t) (by omega) (by omega) ((Zc1 (YAA (by omega))).2 ?_);rw [e,Zef];exact hb
 rw [e1,e2,List.append_nil]

theorem Zgr (h1:∀ t,t<i->ltAt xs r t)(hi:i<=xs.length):(xs.take i).filter (fun x=>Zak r x)=[]:=by
 rw [List.filter_eq_nil_iff];intro x hx hb;obtain⟨t,ht,e⟩:=List.getElem_of_mem hx;rw [YAV] at ht;rw [List.getElem_take] at e;have:=(Zc1 (YAA (show t<xs.length by omega))).1 (h1 t (by omega));rw [e,Zef] at this;rw [ZdM this] at hb;cases hb

theorem ZmD (hs:Asc xs)(hi:i<=xs.length)(h1:∀ t,t<i->ltAt xs r t)(h2:∀ t,i<=t->t<xs.length->¬ltAt xs r t)(h3:¬∃ x,xs[i]? = some x/\ordR x r=0):putD xs r=xs.take i++[r]++xs.drop i:=by
 unfold putD;rw [Zk7 hi h1 h2];congr 1
 conv=>lhs;rw [<-YAc i xs]
 rw [List.filter_append,Zgr h1 hi,List.nil_append,List.filter_eq_self];unfold Asc at hs;rw [YAa] at hs;intro x hx;obtain⟨t,ht,e⟩:=List.getElem_of_mem hx;rw [YAi] at ht;rw [List.getElem_drop] at e;have hin:i<xs.length:=by omega
 have hfirst:Zak r xs[i]=true:=by
  rcases ZiK xs[i] r with h | h | h
  ·exact absurd ((Zc1 (YAA hin)).2 ((Zef _ _).2 h)) (h2 i (YA _) hin)
  ·exact absurd ⟨xs[i],YAA hin,(Zkr _ _).2 h⟩ h3
  ·exact h
 by_cases e0:t=0
 ·subst e0;simp only [Nat.add_zero] at e;rw [<-e];exact hfirst
 ·rw [<-e];exact ZcG hfirst (hs i (i+t) hin (by omega) (by omega))

theorem ZmE (hs:Asc xs)(hi:i<xs.length)(h1:∀ t,t<i->ltAt xs r t)(h2:∀ t,i<=t->t<xs.length->¬ltAt xs r t)(h3:ordR xs[i] r=0):putD xs r=xs.set i r:=by
 have hsame:=(Zkr _ _).1 h3;have e0:xs.drop i=xs[i]::xs.drop (i+1):=YAl hi;unfold putD;rw [Zk7 (Nat.le_of_lt hi) h1 h2];have e1:xs.filter (fun x=>Zak r x)=xs.drop (i+1):=by
  conv=>lhs;rw [<-YAc i xs]
  rw [List.filter_append,Zgr h1 (Nat.le_of_lt hi),List.nil_append,e0,List.filter_cons,if_neg (by rw [(Zbq hsame).2];simp),List.filter_eq_self];unfold Asc at hs;rw [YAa] at hs;intro x hx;obtain⟨t,ht,e⟩:=List.getElem_of_mem hx;rw [YAi] at ht;rw [List.getElem_drop] at e;rw [<-e];exact Zfn hsame (hs i (i+1+t) hi (by omega) (by omega))
 rw [e1];apply List.ext_getElem?;intro j;by_cases hj:j<i
 ·rw [List.getElem?_set_ne (by omega),YAY,List.getElem?_append_left (by simp;omega),YAn hj]
 ·by_cases hje:j=i
  ·subst hje;rw [List.getElem?_set_self hi,YAY,List.getElem?_append_right (by simp;omega),YAV,YAQ (by omega),Nat.sub_self];rfl
  ·rw [List.getElem?_set_ne (by omega),YAY,List.getElem?_append_right (by simp;omega),YAV,YAQ (by omega),List.getElem?_append_right (by simp;omega),List.getElem?_drop];congr 1;simp;omega
end
end Go.Proofs.YtikloccefmofdaaGreat
namespace Go.Proofs.YtikloccefmofdaaGreat
open Go.RowKit
set_option linter.unusedSimpArgs false
set_option linter.unusedVariables false
set_option maxRecDepth 100000
set_option maxHeartbeats 8000000
def nodR (x:SelfD)(a:Int):RecD:=⟨a,1,x.id,0,0,hinD x.net.ls x.id a (ZaJ x.heard),0,false⟩
def nodD (x:SelfD)(al:List Int):List RecD:=al.map (nodR x)
theorem ZqD {x:SelfD}{al:List Int}{k:Nat}{a:Int}(h:al[k]? = some a):nodD x (al.take (k+1))=nodD x (al.take k)++[nodR x a]:=by
 obtain⟨hk,e⟩:=YAD.1 h;unfold nodD;rw [YAI hk,e,YAf];rfl
theorem ZoZ (x:SelfD)(al:List Int):(nodD x al).length=al.length:=by simp [nodD]
theorem Zdw (ls:List Lk)(f:Int):(ZbR ls f).length<=3:=by
 unfold ZbR;exact YAK (List.length_filter_le _ _) (by simp)
theorem Zo1 (v1 v2 v3 v4:Value)(x:SelfD)(w:World)(hl:x.net.ls.length<=1048576)(hh:x.heard.length<=1048576)(h1:ZaK w v1 x.net.ls w.heap.size)(h3:ZaI w v3 x.heard w.heap.size):
  Calls Tryz.prog 48 #[ZlI x v1 v2 v3 v4] w fun e w'=>∃ u qs,e=.returned u/\fsts qs=nodD x (ZbR x.net.ls x.id)/\RecsOwn w' w.heap.size w'.heap.size u qs/\Below w.heap.size w w':=by
 obtain⟨a1,c1,rfl⟩:=ZaK.shape h1;obtain⟨a3,c3,rfl⟩:=h3.shape;have HA:=hide (fun W (hb:Below w.heap.size w W)=>Zeu (.int .i64 x.net.n) (.slice a1 x.net.ls.length c1) v2 x.net.ls x.id W hl (Zav.then h1 hb));have HE:=hide (fun W (hb:Below w.heap.size w W) (a:Int)=>Zlc (.slice a1 x.net.ls.length c1) v2 (.slice a3 x.heard.length c3) v4 x a W hl hh (Zav.then h1 hb) (h3.then hb));have hle3:=Zdw x.net.ls x.id;clear h1 h3;have G0:=hide (YAE w (.cells #[.int .i64 x.id,.int .i64 x.boot,.int .i64 x.net.n,.slice a1 x.net.ls.length c1,v2,.slice a3 x.heard.length c3,v4] 86));have B0:Below w.heap.size w (w.alloc (.cells #[.int .i64 x.id,.int .i64 x.boot,.int .i64 x.net.n,.slice a1 x.net.ls.length c1,v2,.slice a3 x.heard.length c3,v4] 86)):=(YAC _ _).alloc (YA _) _;obtain⟨al,hasE⟩:∃ al,al=ZbR x.net.ls x.id:=⟨_,rfl⟩;rw [<-hasE] at HA hle3 |-;clear hasE;unfold ZlI at HE
 go_enter Tryz.func48,Tryz.ntmps48
 go_wp2_with fail
 refine (HA.out _ B0).mono ?_;rintro e w1 ⟨u,rfl,hu,b1⟩;obtain⟨ea,ec,rfl⟩:=Zac hu;have B1:Below w.heap.size w w1:=B0.trans (b1.mono B0.size);have hg1:=(b1.block _ (Zab G0.out)).trans G0.out;have hs1:=b1.size;have hz1:w.heap.size<w1.heap.size:=Zab hg1;have EA:=hide (show ZaI w1 (.slice ea al.length ec) al w1.heap.size from Zam (by rw [<-Zb7] at hu;exact hu));have z0:=Zaa hg1 0;have z1:=Zaa hg1 1;have z2:=Zaa hg1 2;have z3:=Zaa hg1 3;have z4:=Zaa hg1 4;have z5:=Zaa hg1 5;have z6:=Zaa hg1 6;simp at z0 z1 z2 z3 z4 z5 z6;clear hg1 hu b1 G0 B0 HA;go_wp2
 go_loopw [12,3] (fun i o wr=>∃ (k:Nat) (qs:List RP) (u:Value),k<=al.length/\i=.int .i64 k/\o=u/\Hid (fsts qs=nodD x (al.take k))/\Hid (RecsOwn wr w1.heap.size wr.heap.size u qs)/\Below w1.heap.size w1 wr) (fun i _ _=>al.length-(intOf i).toNat)
 case atStart=>exact ⟨0,[],_,by omega,rfl,rfl,hide (by simp [fsts,nodD]),hide ⟨YAZ _ _ _ _,by intro k hk;simp [Value.ownBlock] at hk,by simp,List.Pairwise.nil⟩,YAC _ _⟩
 case round=>
  obtain⟨k,qs,u,hk,rfl,rfl,HM,OW,hnx⟩:=hrel;obtain⟨ua,uc,rfl⟩:=Zac OW.out.row;have hsz:=hnx.size;by_cases hlt:k<al.length
  ·obtain ⟨a,ha⟩:∃ a,al[k]? = some a:=⟨al[k],YAA hlt⟩;obtain⟨b,off,cap',hve,hbb,d0⟩:=EA.out.cell k a ha;cases hve;replace d0:=(hnx.cell hbb).trans d0;have HST:=hide (ZqD (x:=x) ha);have hki:(0:Int)<=(k:Int):=by omega
   have hkj:(k:Int)<(al.length:Int):=by omega
   have HQL:=hide (show qs.length<=3 by
    have h1:=congrArg List.length HM.out;rw [ZoZ] at h1;simp [fsts] at h1;omega)
   clear ha;replace z0:=(hnx.cell hz1).trans z0;replace z1:=(hnx.cell hz1).trans z1;replace z2:=(hnx.cell hz1).trans z2;replace z3:=(hnx.cell hz1).trans z3;replace z4:=(hnx.cell hz1).trans z4;replace z5:=(hnx.cell hz1).trans z5;replace z6:=(hnx.cell hz1).trans z6;have HCX:=hide (HE.out wr.drew (B1.trans (hnx.mono B1.size)).drew a);have NE0:some w.heap.size≠(Value.slice ua qs.length uc).ownBlock:=fun e=>by have:=(OW.out.row.lt _ e.symm).1;omega
   have hz2:w.heap.size<wr.heap.size:=by omega
   have hz3:w.heap.size<wr.drew.heap.size:=hz2;go_wp2
   -- REGION
   refine Zag (S:=(fun (W:World)=>W.cell? ⟨w.heap.size,0,none⟩=some (.int .i64 x.id)/\W.cell? ⟨w.heap.size,1,none⟩=some (.int .i64 x.boot)/\W.cell? ⟨w.heap.size,2,none⟩=some (.int .i64 x.net.n)/\W.cell? ⟨w.heap.size,3,none⟩=some (.slice a1 x.net.ls.length c1)/\W.cell? ⟨w.heap.size,4,none⟩=some (v2)/\W.cell? ⟨w.heap.size,5,none⟩=some (.slice a3 x.heard.length c3)/\W.cell? ⟨w.heap.size,6,none⟩=some (v4))) (by kernel_rfl) 11 rfl ⟨z0,z1,z2,z3,z4,z5,z6⟩ (fun ops hops hHeld=>?_)
   iterate 6 (refine TK 11 ?_;try simp only [putS])
   refine TC 6 ?_;intro K hK;go_simp;refine HCX.out.mono ?_;rintro e w2 ⟨hu,rfl,hou,bc⟩;obtain⟨ha,hc,rfl⟩:=Zac hou;have hbs:wr.heap.size<=w2.heap.size:=bc.size;have HOU:=hide hou;clear hou;refine hK.out _ _ ?_ (fun hHeld=>?_)
   ·obtain ⟨m0,m1,m2,m3,m4,m5,m6⟩:=hHeld;exact⟨(bc.cell hz2).trans m0,(bc.cell hz2).trans m1,(bc.cell hz2).trans m2,(bc.cell hz2).trans m3,(bc.cell hz2).trans m4,(bc.cell hz2).trans m5,(bc.cell hz2).trans m6⟩
   clear hK K
   try simp only [putS]
   refine TK 11 ?_
   try simp only [putS]
   refine TC 8 ?_;intro K hK;go_simp;refine hK.out _ _ ?_ (fun hHeld=>?_)
   ·obtain ⟨m0,m1,m2,m3,m4,m5,m6⟩:=hHeld;exact⟨(((YAC w2.heap.size w2).alloc (YA _) _).cell (YAB hz2 bc.size)).trans m0,(((YAC w2.heap.size w2).alloc (YA _) _).cell (YAB hz2 bc.size)).trans m1,(((YAC w2.heap.size w2).alloc (YA _) _).cell (YAB hz2 bc.size)).trans m2,(((YAC w2.heap.size w2).alloc (YA _) _).cell (YAB hz2 bc.size)).trans m3,(((YAC w2.heap.size w2).alloc (YA _) _).cell (YAB hz2 bc.size)).trans m4,(((YAC w2.heap.size w2).alloc (YA _) _).cell (YAB hz2 bc.size)).trans m5,(((YAC w2.heap.size w2).alloc (YA _) _).cell (YAB hz2 bc.size)).trans m6⟩
   clear hK K
   try simp only [putS]
   refine TC 9 ?_;intro K hK;refine ZeR Zay (by omega) (by omega) _ _ _ 31 rfl w1.heap.size 37 Tryz.underlying31 (.agg (recC Za9 (.slice none 0 0))) rfl Tryz.infoRec (.slice ua qs.length uc) qs (nodR x a,.slice ha (hinD x.net.ls x.id a (ZaJ x.heard)).length hc) (ZbY _ _ _ _) rfl ((Zad OW.out.row.drew bc (YA _)).alloc _) ⟨w2.heap.size,0,none⟩ 1 rfl (Zan (cs:=encP (nodR x a,.slice ha (hinD x.net.ls x.id a (ZaJ x.heard)).length hc))) (by have:=HQL.out;omega) (by simp;omega) ?_;intro v' w' hown' hgrow;refine hK.out _ _ ?_ (fun hHeld=>?_)
   ·obtain ⟨m0,m1,m2,m3,m4,m5,m6⟩:=hHeld;exact⟨hgrow.cell m0 NE0,hgrow.cell m1 NE0,hgrow.cell m2 NE0,hgrow.cell m3 NE0,hgrow.cell m4 NE0,hgrow.cell m5 NE0,hgrow.cell m6 NE0⟩
   clear hK K
   try simp only [putS]
   refine TK 11 ?_
   try simp only [putS]
   refine wpAnyH_done (by rw [hops.out];kernel_rfl) ?_ _;clear hops ops
   -- END
   have hgs:=hgrow.size;have hds:wr.drew.heap.size=wr.heap.size:=rfl;have BF:Below w1.heap.size w1 w':=((hnx.drew.trans (bc.mono (by omega))).alloc (by omega) _).grown hgrow (by simp;omega) (fun k hk=>(OW.out.row.lt k hk).1);have bb:Below wr.heap.size wr (w2.alloc (.cells (encP (nodR x a,.slice ha (hinD x.net.ls x.id a (ZaJ x.heard)).length hc)).toArray 37)):=((YAC _ _).drew.trans (bc.mono (by omega))).alloc (by omega) _;have ow4:=OW.out.push (p:=(nodR x a,.slice ha (hinD x.net.ls x.id a (ZaJ x.heard)).length hc)) bb (by omega) ⟨Zaf (HOU.out.alloc _) (by omega),fun k hk=>by have:=(HOU.out.lt k hk).2;simp;omega⟩ (by simpa using hown') hgrow;obtain⟨va,vc,rfl⟩:=Zac hown';have OW4:=hide ow4;clear hown' hgrow ow4 bb;go_wp2;go_roundw
   case rel=>exact ⟨k+1,qs++[(nodR x a,.slice ha (hinD x.net.ls x.id a (ZaJ x.heard)).length hc)],_,by omega,by go_num,rfl,hide (by rw [HST.out, <-HM.out];simp [fsts]),OW4,BF⟩
   case measure=>simp [intOf];omega
  ·have KN:=hide (show al.take k=al from YAL (by omega));go_wp2;go_ret;exact⟨_,qs,rfl,by rw [HM.out,KN.out],OW.out.wide (by omega) (YA _),B1.trans (hnx.mono B1.size)⟩
end Go.Proofs.YtikloccefmofdaaGreat
namespace Go.Proofs.YtikloccefmofdaaGreat

def cOf (bp:Nat->Option Nat)(wd:Nat->WayD)(v:Nat):Int:=match bp v with
 | some k=>(wd k).cost
 | none => -1

def hOf (bp:Nat->Option Nat)(wd:Nat->WayD)(v:Nat):List Int:=match bp v with
 | some k=>(wd k).hops
 | none=>[]

theorem ZcC {bp:Nat->Option Nat}{wd:Nat->WayD}{v k:Nat}(h:bp v=some k):cOf bp wd v=(wd k).cost:=by unfold cOf;rw [h]

theorem Zet {bp:Nat->Option Nat}{wd:Nat->WayD}{v k:Nat}(h:bp v=some k):hOf bp wd v=(wd k).hops:=by unfold hOf;rw [h]

theorem ZgG {bp:Nat->Option Nat}{wd:Nat->WayD}{v:Nat}(h:bp v=none):cOf bp wd v = -1:=by unfold cOf;rw [h]

structure GI (F:Nat->Bool) (c:Nat->Int) (h:Nat->List Int) (n:Nat) (q:Nat->Nat) (bp:Nat->Option Nat) (wd:Nat->WayD):Prop where
 cc:∀ v,cOf bp wd v=c v
 hh:∀ v,hOf bp wd v=h v
 to:∀ v k,bp v=some k->(wd k).to=(v:Int)
 ent:∀ i,i<n->∃ v kb:Nat,(wd (q i)).to=(v:Int)/\bp v=some kb/\((q i=kb/\F v=false)\/(wd kb).cost<(wd (q i)).cost)
 live:∀ v k,bp v=some k->F v=false->∃ i,i<n/\q i=k
 inj:∀ i j,i<n->j<n->q i=q j->i=j
 nn:∀ v k,bp v=some k->0<=(wd k).cost

theorem GI.push {F:Nat->Bool}{c:Nat->Int}{h:Nat->List Int}{n:Nat}{q q':Nat->Nat}{bp:Nat->Option Nat}{wd:Nat->WayD}(g:GI F c h n q bp wd){t k:Nat}{x:WayD}(hF:F t=false)(hx:x.to=(t:Int))(hc:c t<0\/x.cost<c t)
  (hk1:∀ i,i<n->q i≠k) (hk2:∀ v,bp v≠some k) (hs:Shuf (fun y=>if y=n then k else q y) q' (n+1)) (hx0:0<=x.cost):GI F (upd c t x.cost) (upd h t x.hops) (n+1) q' (upd bp t (some k)) (upd wd k x):=by
 have wk:∀ i,i<n->upd wd k x (q i)=wd (q i):=fun i hi=>Zao _ _ (hk1 i hi);have wb:∀ v k',bp v=some k'->upd wd k x k'=wd k':=fun v k' e=>Zao _ _ (fun e2=>hk2 v (by rw [e,e2]));have hin:∀ i,i<n+1->q' i=k\/∃ j,j<n/\q' i=q j:=by
  intro i hi;obtain⟨j,hj,e⟩:=hs.into i hi;by_cases e2:j=n
  ·left;rw [e];exact if_pos e2
  ·right;refine⟨j,by omega,?_⟩;rw [e];exact if_neg e2
 refine⟨fun v=>?_,fun v=>?_,fun v k' e=>?_,fun i hi=>?_,fun v k' e hFv=>?_,?_,fun v k' e=>?_⟩
 ·by_cases e:v=t
  ·subst e;rw [ZcC (k:=k) (Zau _ _ _),Zau,Zau]
  ·rw [Zao _ _ e, <-g.cc v];unfold cOf;rw [Zao _ _ e];cases e2:bp v with
   | none=>rfl
   | some k'=>show (upd wd k x k').cost=(wd k').cost;rw [wb v k' e2]
 ·by_cases e:v=t
  ·subst e;rw [Zet (k:=k) (Zau _ _ _),Zau,Zau]
  ·rw [Zao _ _ e, <-g.hh v];unfold hOf;rw [Zao _ _ e];cases e2:bp v with
   | none=>rfl
   | some k'=>show (upd wd k x k').hops=(wd k').hops;rw [wb v k' e2]
 ·by_cases e2:v=t
  ·subst e2;rw [Zau] at e;cases e;rw [Zau];exact hx
  ·rw [Zao _ _ e2] at e;rw [wb v k' e];exact g.to v k' e
 ·rcases hin i hi with e | ⟨j,hj,e⟩
  ·refine ⟨t,k,?_,Zau _ _ _,.inl ⟨e,hF⟩⟩;rw [e,Zau];exact hx
  ·obtain ⟨v,kb,h1,h2,h3⟩:=g.ent j hj;rw [e,wk j hj];by_cases ev:v=t
   ·subst ev;refine⟨v,k,h1,Zau _ _ _,.inr ?_⟩;rw [Zau];have hcv:=g.cc v;rw [ZcC h2] at hcv;have h0:=g.nn v kb h2;rcases h3 with ⟨h4,_⟩ | h4
    ·rw [h4];omega
    ·omega
   ·refine ⟨v,kb,h1,by rw [Zao _ _ ev];exact h2,?_⟩;rw [wb v kb h2];exact h3
 ·by_cases e2:v=t
  ·subst e2;rw [Zau] at e;cases e;obtain⟨i,hi,e3⟩:=hs.onto n (by omega);exact⟨i,hi,by rw [e3];exact if_pos rfl⟩
  ·rw [Zao _ _ e2] at e;obtain⟨j,hj,e3⟩:=g.live v k' e hFv;obtain⟨i,hi,e4⟩:=hs.onto j (by omega);refine⟨i,hi,?_⟩;rw [e4, <-e3];exact if_neg (by omega)
 ·refine hs.inj (fun i j hi hj e=>?_);by_cases ei:i=n <;> by_cases ej:j=n
  ·omega
  ·have e2:k=q j:=by simpa [ei,ej] using e
   exact absurd e2.symm (hk1 j (by omega))
  ·have e2:q i=k:=by simpa [ei,ej] using e
   exact absurd e2 (hk1 i (by omega))
  ·have e2:q i=q j:=by simpa [ei,ej] using e
   exact g.inj i j (by omega) (by omega) e2
 ·by_cases e2:v=t
  ·subst e2;rw [Zau] at e;cases e;rw [Zau];exact hx0
  ·rw [Zao _ _ e2] at e;rw [wb v k' e];exact g.nn v k' e

theorem GI.join {F:Nat->Bool}{c:Nat->Int}{h:Nat->List Int}{n:Nat}{q:Nat->Nat}{bp:Nat->Option Nat}{wd:Nat->WayD}(g:GI F c h n q bp wd){t k:Nat}{y:WayD}(hb:bp t=some k)(hc:y.cost=(wd k).cost)(ht:y.to=(wd k).to):GI F c (upd h t y.hops) n q bp (upd wd k y):=by
 have hcost:∀ k',(upd wd k y k').cost=(wd k').cost:=by
  intro k';by_cases e:k'=k
  ·rw [e,Zau];exact hc
  ·rw [Zao _ _ e]
 have hto:∀ k',(upd wd k y k').to=(wd k').to:=by
  intro k';by_cases e:k'=k
  ·rw [e,Zau];exact ht
  ·rw [Zao _ _ e]
 refine⟨fun v=>?_,fun v=>?_,fun v k' e=>?_,fun i hi=>?_,g.live,g.inj,fun v k' e=>by rw [hcost];exact g.nn v k' e⟩
 ·rw [<-g.cc v];unfold cOf;cases bp v with
  | none=>rfl
  | some k'=>exact hcost k'
 ·by_cases e:v=t
  ·subst e;rw [Zet hb,Zau,Zau]
  ·rw [Zao _ _ e, <-g.hh v];unfold hOf;cases e2:bp v with
   | none=>rfl
   | some k'=>
    show (upd wd k y k').hops=(wd k').hops;rw [Zao];intro e3;subst e3;have h1:=g.to v k' e2;have h2:=g.to t k' hb;omega
 ·rw [hto];exact g.to v k' e
 ·obtain ⟨v,kb,h1,h2,h3⟩:=g.ent i hi;refine⟨v,kb,by rw [hto];exact h1,h2,?_⟩;rw [hcost,hcost];exact h3

theorem pop_in {q q':Nat->Nat}{n:Nat}(hs:Shuf (Zcn q 0 n) q' n){i:Nat}(hi:i<n):∃ j,0<j/\j<n+1/\q' i=q j:=by
 obtain⟨j,hj,e⟩:=hs.into i hi;rcases Zb9 q 0 n j with ⟨a,b⟩ | ⟨a,b⟩ | ⟨a,_,b⟩
 ·exact ⟨n,by omega,by omega,e.trans b⟩
 ·omega
 ·exact ⟨j,by omega,by omega,e.trans b⟩

theorem pop_on {q q':Nat->Nat}{n:Nat}(hs:Shuf (Zcn q 0 n) q' n){j:Nat}(h0:0<j)(hj:j<n+1):∃ i,i<n/\q' i=q j:=by
 by_cases e:j=n
 ·obtain ⟨i,hi,e2⟩:=hs.onto 0 (by omega);refine⟨i,hi,?_⟩;rw [e2];unfold Zcn;rw [if_pos rfl,e]
 ·obtain ⟨i,hi,e2⟩:=hs.onto j (by omega);refine⟨i,hi,?_⟩;rw [e2];unfold Zcn;rw [if_neg (by omega),if_neg e]

theorem Zr7 {q q':Nat->Nat}{n:Nat}(hs:Shuf (Zcn q 0 n) q' n)(hi:∀ i j,i<n+1->j<n+1->q i=q j->i=j):∀ i j,i<n->j<n->q' i=q' j->i=j:=
 hs.inj (fun i j h1 h2 e=>(Shuf.swap q (n:=n+1) (i:=0) (j:=n) (by omega) (by omega)).inj hi i j (by omega) (by omega) e)

theorem GI.pop {F F':Nat->Bool}{c:Nat->Int}{h:Nat->List Int}{n:Nat}{q q':Nat->Nat}{bp:Nat->Option Nat}{wd:Nat->WayD}(g:GI F c h (n+1) q bp wd)(hs:Shuf (Zcn q 0 n) q' n)
  (hF1:∀ v,F' v=false->F v=false) (hF2:∀ v k,bp v=some k->F' v=false->k≠q 0) (hF3:∀ v,F v=false->F' v=true->bp v=some (q 0)):GI F' c h n q' bp wd:=by
 refine⟨g.cc,g.hh,g.to,fun i hi=>?_,fun v k e hFv=>?_,Zr7 hs g.inj,g.nn⟩
 ·obtain ⟨j,h0,hj,e⟩:=pop_in hs hi;obtain⟨v,kb,h1,h2,h3⟩:=g.ent j hj;rw [e];refine⟨v,kb,h1,h2,?_⟩;rcases h3 with ⟨h4,h5⟩ | h4
  ·left;refine⟨h4,?_⟩;cases e2:F' v with
   | false=>rfl
   | true=>
    have h6:=hF3 v h5 e2;rw [h2] at h6;cases h6;have:=g.inj j 0 hj (by omega) h4;omega
  ·exact .inr h4
 ·obtain ⟨j,hj,e2⟩:=g.live v k e (hF1 v hFv);have h0:0<j:=by
   by_cases e3:j=0
   ·subst e3;exact absurd e2.symm (hF2 v k e hFv)
   ·omega
  obtain⟨i,hi,e4⟩:=pop_on hs h0 hj;exact⟨i,hi,e4.trans e2⟩
theorem Inv.hops_ne {L:Nat->Nat->Int}{src:Nat}{F:Nat->Bool}{c:Nat->Int}{h:Nat->List Int}(I:Inv L src F c h):∀ (m v:Nat),v≠src->0<=c v->(c v).toNat<=m->h v≠[]
 | m,v,hv,h0,hm=>by
  obtain⟨u,hu,hl,hc⟩:=I.pred v hv h0;have hu0:=(I.fnode u hu).2;by_cases e:u=src
  ·have:(v:Int)∈h v:=(I.hop v hv v).2 ⟨h0,u,hu,hl,hc,.inl ⟨e,rfl⟩⟩;intro e2;rw [e2] at this;cases this
  ·match m,hm with
   | 0,hm=>omega
   | m+1,hm=>
    have ih:=I.hops_ne m u e hu0 (by omega);obtain⟨x,hx⟩:=List.exists_mem_of_ne_nil _ ih;have:x∈h v:=(I.hop v hv x).2 ⟨h0,u,hu,hl,hc,.inr ⟨e,hx⟩⟩;intro e2;rw [e2] at this;cases this

theorem ZgE {l a b:List Int}(hl:l.Pairwise (· < ·))(hm:∀ x,x∈l↔(x∈a\/x∈b))(hr:∀ x,x∈l->1<=x/\x<=6):l=addL a b:=by
 refine ZiH hl (ZgC a b) (fun x=>?_);rw [ZgD];constructor
 ·intro hx;have:=hr x hx;exact⟨this.1,this.2,(hm x).1 hx⟩
 ·rintro ⟨_,_,h3⟩;exact (hm x).2 h3

theorem Zd7 {P:Nat->Prop}(h:∃ m,P m):∃ m,P m/\∀ k,P k->m<=k:=by
 obtain⟨m,hm⟩:=h
 induction m using Nat.strongRecOn with
 | ind m ih=>
  by_cases e:∃ k,k<m/\P k
  ·obtain ⟨k,hk,hP⟩:=e;exact ih k hk hP
  ·exact ⟨m,hm,fun k hk=>by
    by_cases e2:k<m
    ·exact absurd ⟨k,e2,hk⟩ e
    ·omega⟩

open Classical in
noncomputable def Zia (P:Nat->Prop):Nat:=if h:∃ m,P m then Classical.choose (Zd7 h) else 0

theorem Zlp {P:Nat->Prop}(h:∃ m,P m):P (Zia P):=by
 unfold Zia;rw [dif_pos h];exact (Classical.choose_spec (Zd7 h)).1

theorem Zhj {P:Nat->Prop}{m:Nat}(h:P m):Zia P<=m:=by
 unfold Zia;rw [dif_pos ⟨m,h⟩];exact (Classical.choose_spec (Zd7 ⟨m,h⟩)).2 m h
end Go.Proofs.YtikloccefmofdaaGreat
namespace Go.Proofs.YtikloccefmofdaaGreat
open Go.RowKit
set_option linter.unusedSimpArgs false
set_option linter.unusedVariables false
set_option maxRecDepth 100000
set_option maxHeartbeats 8000000
variable {cap len p z:Nat}{a:Option Addr}{w w' w5 wr:World}
theorem Tryz.infoB :(Tryz.prog.info? 4).map (fun i=>(i.zero,i.size,i.bytes))=some (some (.bool false),1,1):=by kernel_rfl
theorem new_at (p:Nat)(a:Option Addr)(len cap:Nat)(w:World)(hp:w.heap.size=p)(hc:Code w a len w.heap.size):
  Calls Tryz.prog 12 #[.slice a len cap] w fun e w'=>e=.returned (.pointer (some ⟨p,0,none⟩))/\Cur w' p a len cap/\Below p w w':=by
 subst hp;exact Zr2 a len cap w hc
theorem Zdp {P:Program}(w:World){ops:Array Oper}{rest:List Oper}{o:Oper}{a:Act}{Q:Exit->Act->World->Prop}(hgd:o.guard=none)(s x:Operand)(t:TypeId)
  (ho:o.op=.call { callee:=.builtin .append,args:=#[s,x],argTypes:=#[t,t] }) (base:Nat) (e:TypeId) (ht:P.underlying t=some (.slice e))
  (hinfo:(P.info? e).map (fun i=>(i.zero,i.size,i.bytes))=some (some (.bool false),1,1))
  (v:Value) (l:List Bool) (y:Bool) (hs:a.eval s=v) (hown:w.ownsRow base e 1 v l.length (flat blE l))
  (ad:Addr) (c:Nat) (hx:a.eval x=.slice (some ad) 1 c) (hnews:∀ j u,(blE y)[j]? = some u->w.cell? (ad.add j)=some u)
  (hl:l.length+1<=1000000000) (hbase:base<=w.heap.size)
  (h:∀ v' w' l',Hid (l'=l++[y])->w'.ownsRow base e 1 v' l'.length (flat blE l')->w.grownBy w' v.ownBlock->(v'.ownBlock=v.ownBlock\/v'.ownBlock=some w.heap.size)->wpList P ops Q rest (a.put o.dst v') w'):wpList P ops Q (o::rest) a w:=by
 obtain⟨i0,hi,hz0,hz1,hz2⟩:=info_parts hinfo;refine wpList_append_own_at w hgd s x t ho base e i0 (.bool false) 1 1 ht hi hz0 hz1 hz2 rfl (by decide) v l.length (flat blE l) hs hown ad 1 c (blE y) hx rfl hnews (ZrK y) (by unfold maxLen;omega) (by omega) hbase ?_;intro v' w' h1 h2 _ h4;have e1:flat blE l++blE y=flat blE (l++[y]):=by rw [ZaC];simp [flat]
 rw [e1] at h1;exact h v' w' (l++[y]) rfl (by simpa using h1) h2 h4
theorem Zii {base size:Nat}{e:TypeId}{v:Value}{n:Nat}{xs:List Value}(h:w.ownsRow base e size v n xs)(hz:w.heap.size<=z)(hp:p<base)(hk:∀ b,b<z->b≠p->w'.heap[b]? = w.heap[b]?):w'.ownsRow base e size v n xs:=by
 refine⟨h.1,?_⟩;rcases h.2 with h2 | ⟨g,cap,cur,hv,hg,hh,r⟩
 ·exact .inl h2
 ·have:=Zab hh;exact .inr ⟨g,cap,cur,hv,hg,by rw [hk g (by omega) (by omega)];exact hh,r⟩
theorem Zmv {x:NetD}(h:Za0 x=true):1<=x.n/\x.n<=6:=by
 simp [Za0,inB] at h;omega
theorem ZqB {x:NetD}(h:Za0 x=true):x.ls.length<=12/\x.ts.length<=4:=by
 simp [Za0,Zb1,Zbt] at h;omega
structure DSt (w w5 wr:World) (p z:Nat) (a:Option Addr) (len cap:Nat):Prop where
 cur:Cur wr p a len cap
 bel:Below w.heap.size w wr
 kept:∀ b,b<z+1->b≠p->wr.heap[b]? = w5.heap[b]?
 size:z+1<=wr.heap.size
theorem DSt.grown (h:DSt w w5 wr p z a len cap)(hc:Cur w' p a len cap)(hg:wr.grownBy w' (some p))(hp:w.heap.size<=p):DSt w w5 w' p z a len cap where
 cur:=hc
 bel:=h.bel.grown hg h.bel.size (fun k hk=>by simp at hk;omega)
 kept:=fun b hb hbp=>by rw [hg.block b (by have:=h.size;omega) (by simp;exact hbp)];exact h.kept b hb hbp
 size:=YAK h.size hg.size
theorem DSt.alloc (h:DSt w w5 wr p z a len cap)(o:Obj):DSt w w5 (wr.alloc o) p z a len cap where
 cur:=Zcf h.cur o
 bel:=h.bel.alloc h.bel.size o
 kept:=fun b hb hbp=>by rw [YAH _ _ _ (by have:=h.size;omega)];exact h.kept b hb hbp
 size:=by have:=h.size;simp;omega
theorem DSt.appended {v:Value}{e:TypeId}{n:Nat}{xs:List Value}(o:Obj)(h:DSt w w5 wr p z a len cap)(hown:wr.ownsRow (z+1) e 1 v n xs)(hp:p<z)(hw:w.heap.size<=z)(hg:(wr.alloc o).grownBy w' v.ownBlock):DSt w w5 w' p z a len cap:=
 have h1:=h.alloc o
 {cur:=h.cur.appended o hown (by omega) hg
  bel:=h1.bel.grown hg h1.bel.size (fun k hk=>by have:=(hown.lt k hk).1;omega)
  kept:=fun b hb hbp=>by
   rw [hg.block b (by have:=h1.size;omega) (fun he=>by have:=(hown.lt b he.symm).1;omega)];exact h1.kept b hb hbp
  size:=YAK h1.size hg.size }
end Go.Proofs.YtikloccefmofdaaGreat
