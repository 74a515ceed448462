/-
  CostS MarkN IKind
-/
import Derived.Test.YtadokhjefnkajaaGreatIe4
import Derived.Test.YtadokhjefnkajaaGreatIe3
namespace Go.Proofs.YtadokhjefnkajaaGreat
open Go.RowKit
set_option linter.unusedSimpArgs false
set_option linter.unusedVariables false
set_option maxRecDepth 100000
set_option maxHeartbeats 8000000
def Zbx (f t r:Int)(l:Lk):Bool:=l.r==r&&((l.a==f&&l.b==t)||(l.a==t&&l.b==f))
def Zcw (ls:List Lk)(f t r:Int):Int:=((ls.find? (Zbx f t r)).map (·.c)).getD 0
theorem Zfc {α:Type}(p:α->Bool):∀ (ls:List α) (k:Nat) (l:α),(∀ j,j<k->∀ x,ls[j]? = some x->p x=false)->ls[k]? = some l->p l=true->ls.find? p=some l
 | [],_,_,_,h,_=>by simp at h
 | y::ys,0,l,_,h,hp=>by simp at h;subst h;simp [hp]
 | y::ys,k+1,l,hno,h,hp=>by
  have h0:=hno 0 (by omega) y rfl
  rw [List.find?_cons,h0];exact Zfc p ys k l (fun j hj x hx=>hno (j+1) (by omega) x (by simpa using hx)) (by simpa using h) hp
theorem ZgX {α:Type}(p:α->Bool)(ls:List α)(h:∀ j,j<ls.length->∀ x,ls[j]? = some x->p x=false):ls.find? p=none:=by
 rw [List.find?_eq_none];intro x hx;obtain⟨i,hi,e⟩:=List.mem_iff_getElem.1 hx;rw [h i hi x (by rw [List.getElem?_eq_getElem hi,e])]
 decide
theorem Zj7 {α:Type}{p:α->Bool}{ls:List α}{k:Nat}{l:α}(h:∀ j,j<k->∀ x,ls[j]? = some x->p x=false)(hl:ls[k]? = some l)(hp:p l=false):∀ j,j<k+1->∀ x,ls[j]? = some x->p x=false:=by
 intro j hj x hx;by_cases e:j=k
 ·subst e;rw [hl] at hx;cases hx;exact hp
 ·exact h j (by omega) x hx
theorem ZhH {ls:List Lk}{f t r:Int}{k:Nat}{l:Lk}(h:∀ j,j<k->∀ x,ls[j]? = some x->Zbx f t r x=false)(hl:ls[k]? = some l)(hp:Zbx f t r l=true):Zcw ls f t r=l.c:=by
 unfold Zcw;rw [Zfc _ ls k l h hl hp];rfl
theorem ZfY {ls:List Lk}{f t r:Int}{k:Nat}{l:Lk}(h:∀ j,j<k->∀ x,ls[j]? = some x->Zbx f t r x=false)(hl:ls[k]? = some l)(hp:Zbx f t r l=false):∀ j,j<k+1->∀ x,ls[j]? = some x->Zbx f t r x=false:=Zj7 h hl hp
theorem ZiB {ls:List Lk}{f t r:Int}{k:Nat}(h:∀ j,j<k->∀ x,ls[j]? = some x->Zbx f t r x=false)(hk:k=ls.length):Zcw ls f t r=0:=by
 unfold Zcw;rw [ZgX _ ls (by rw [<-hk];exact h)];rfl
theorem Znz (n:Value)(v tv:Value)(ls:List Lk)(f t r:Int)(w:World)(hls:ls.length<=1048576)(hv:ZaS w v ls w.heap.size):
  Calls Tryz.prog 109 #[.agg #[n,v,tv],.int .i64 f,.int .i64 t,.int .i64 r] w fun e w'=>e=.returned (.int .i64 (Zcw ls f t r))/\Below w.heap.size w w':=by
 obtain⟨a,cap,rfl⟩:∃ a cap,v=.slice a ls.length cap:=by obtain ⟨a,cap,h,_⟩:=hv;exact⟨a,cap,h⟩
 have HV:=hide hv;clear hv
 go_enter Tryz.func109,Tryz.ntmps109
 go_wp2
 go_loopw [9] (fun i wr=>∃ k:Nat,k<=ls.length/\i=.int .i64 k/\(∀ j,j<k->∀ l,ls[j]? = some l->Zbx f t r l=false)/\Below w.heap.size w wr/\wr.heap[w.heap.size]? = some (.cells #[n,.slice a ls.length cap,tv] 27)) (fun i _=>ls.length-(intOf i).toNat)
 case atStart=>exact ⟨0,by omega,rfl,by omega,(Below.refl _ _).alloc (Nat.le_refl _) _,heap_alloc_new w _⟩
 case round=>
  obtain⟨k,hk,rfl,hno,hb,hx⟩:=hrel;have hx1:wr.cell? ⟨w.heap.size,1,none⟩=some (.slice a ls.length cap):=by rw [Zaa hx];rfl
  have HX:=hide hx;have HNO:=hide hno;clear hx hno;by_cases hlt:k<ls.length
  ·obtain ⟨l,hl⟩:∃ l,ls[k]? = some l:=⟨ls[k],List.getElem?_eq_getElem hlt⟩
   obtain⟨b,off,cap',hve,hbb,c0,c1,c2,c3⟩:=HV.out.cells k l hl;cases hve
   rw [<-hb.cell (p:=⟨b,off+k*4,none⟩) hbb] at c0;rw [<-hb.cell (p:=⟨b,off+k*4+1,none⟩) hbb] at c1;rw [<-hb.cell (p:=⟨b,off+k*4+2,none⟩) hbb] at c2;rw [<-hb.cell (p:=⟨b,off+k*4+3,none⟩) hbb] at c3;have HL:=hide hl;clear hl;obtain⟨la,lb,lc,lr⟩:=l
   go_wp2
   all_goals first
    | (go_ret
       refine⟨Zet (ZhH HNO.out HL.out ?_).symm,hb.alloc hb.size _⟩
       clear HV HX HL HNO hb hx1 c0 c1 c2 c3;simp only [Zbx]
       grind)
    | (refine ⟨⟨k+1,by omega,by go_num,ZfY HNO.out HL.out ?_,hb.alloc hb.size _,?_⟩,by simp [intOf];omega⟩
       ·clear HV HX HL HNO hb hx1 c0 c1 c2 c3
        simp only [Zbx]
        grind
       ·rw [Below.heap_alloc _ _ _ (Zab HX.out)];exact HX.out)
    | (subst_vars
       refine⟨⟨k+1,by omega,by go_num,ZfY HNO.out HL.out ?_,hb.alloc hb.size _,?_⟩,by simp [intOf];omega⟩
       ·clear HV HX HL HNO hb hx1 c0 c1 c2 c3
        simp only [Zbx]
        grind
       ·rw [Below.heap_alloc _ _ _ (Zab HX.out)];exact HX.out)
  ·have hk':k=ls.length:=by omega
   have HK:=hide hk';clear hk'
   go_wp2
   go_ret
   exact⟨Zet (ZiB HNO.out HK.out).symm,hb⟩
def mk (q:Int)(i:Nat):Nr:=⟨q+2*(i:Int),q+2*(i:Int)+1⟩
def Zge (q:Int)(n:Nat):List Nr:=(List.range n).map (mk q)
theorem ZdB (q:Int)(n:Nat):(Zge q n).length=n:=by simp [Zge]
theorem Zm7 {q:Int}{n:Nat}{ys:List Nr}(hl:ys.length=n)(h:∀ j,j<n->ys[j]? = some (mk q j)):ys=Zge q n:=by
 apply List.ext_getElem?
 intro i;by_cases hi:i<n
 ·rw [h i hi]
  simp [Zge,hi]
 ·rw [List.getElem?_eq_none (by omega),List.getElem?_eq_none (by rw [ZdB];omega)]
theorem ZbQ {w:World}{base size:Nat}{e:TypeId}{v:Value}{n:Nat}{xs:List Value}(h:w.ownsRow base e size v n xs)(hn:0<n):
  ∃ g cap,v=.slice (some ⟨g,0,none⟩) n cap/\base<=g/\g<w.heap.size:=by
 rcases h.2 with ⟨_,h0⟩ | ⟨g,cap,cur,hv,hb,hg,_⟩
 ·omega
 ·exact ⟨g,cap,hv,hb,Zab hg⟩
theorem ZaG {w:World}{base size g cap:Nat}{e:TypeId}{n:Nat}{xs:List Value}(h:w.ownsRow base e size (.slice (some ⟨g,0,none⟩) n cap) n xs)(j:Nat)(hj:j<n*size):∃ u,w.cell? ⟨g,j,none⟩=some u:=by
 rw [h.cellAt j hj];have hl:j<xs.length:=by rw [h.1];exact hj
 exact⟨_,List.getElem?_eq_getElem hl⟩
theorem Zbd (w:World)(r:Option Nat):w.grownBy w r:=⟨rfl,rfl,rfl,Nat.le_refl _,fun _ _ _=>rfl⟩
theorem Zb6 {a b:Int}(h:a=b):Ending.returned (.int .i64 a)=.returned (.int .i64 b):=by rw [h]
theorem ZhW (v:Value)(base n:Nat)(ns:List Nr)(q:Int)(w:World)(hn0:ns.length=n)(h1:w.ownsRow base 107 2 v n (flat nrE ns))(hn:n<=1048576)(hq:0<=q)(hq2:q<=1000000000):
  Calls Tryz.prog 103 #[v,.int .i64 q] w fun e w'=>e=.returned (.int .i64 (q+2*(n:Int)))/\w'.ownsRow base 107 2 v n (flat nrE (Zge q n))/\w.grownBy w' v.ownBlock:=by
 by_cases h0:n=0
 ·subst h0
  obtain⟨a1,c1,rfl⟩:=Zac h1;have hnn:ns=[]:=List.length_eq_zero_iff.1 hn0;have H1:=hide h1;rw [hnn] at H1;clear h1 hn0 hnn
  go_enter Tryz.func103,Tryz.ntmps103
  go_wp2
  refine wp_loop_rounds 1 ?_
  rw [rounds_succ]
  go_wp2
  go_ret
  exact⟨by simp,H1.out,Zbd _ _⟩
 ·obtain ⟨g1,c1,rfl,hg1,hl1⟩:=ZbQ h1 (by omega)
  have H1:=hide h1;have HN0:=hide hn0;clear h1 h0 hn0
  go_enter Tryz.func103,Tryz.ntmps103
  go_wp2
  go_loopw [5,1] (fun i r wr=>∃ (k:Nat) (ys:List Nr),k<=n/\i=.int .i64 k/\r=.int .i64 (q+2*(k:Int))/\ys.length=n/\(∀ j,j<k->ys[j]? = some (mk q j))/\wr.ownsRow base 107 2 (.slice (some ⟨g1,0,none⟩) n c1) n (flat nrE ys)/\w.grownBy wr (some g1)) (fun i _ _=>n-(intOf i).toNat)
  case atStart=>exact ⟨0,ns,by omega,rfl,by simp,HN0.out,by omega,H1.out,Zbd _ _⟩
  case round=>
   clear H1;obtain⟨k,ys,hk,rfl,rfl,hyl,hys,hown,hnx⟩:=hrel;by_cases hlt:k<n
   ·have hki:(0:Int)<=(k:Int):=by omega
    have hkj:(k:Int)<(n:Int):=by omega
    obtain⟨u0,d0⟩:=ZaG hown (k*2) (by omega)
    obtain⟨u1,d1⟩:=ZaG hown (k*2+1) (by omega)
    have f0:=hown.frozenAt (k*2);have f1:=hown.frozenAt (k*2+1);have st:=((hown.stored (k*2) (.int .i64 (q+2*(k:Int)))).1.stored (k*2+1) (.int .i64 (q+2*(k:Int)+1))).1;have e1:((flat nrE ys).set (k*2) (.int .i64 (q+2*(k:Int)))).set (k*2+1) (.int .i64 (q+2*(k:Int)+1))=flat nrE (ys.set k (mk q k)):=Zcr Zgl ys k (mk q k) (by omega)
    rw [e1] at st;have ST:=hide st;have HYL:=hide hyl;have HYS:=hide hys;clear hown st e1 hyl hys
    go_wp2
    refine⟨⟨k+1,ys.set k (mk q k),by omega,by go_num,by go_num,by simp [HYL.out],?_,ST.out,Zah (Zah hnx (Zaq _ _ _ _)) (Zaq _ _ _ _)⟩,by simp [intOf];omega⟩
    intro j hj;by_cases e:j=k
    ·subst e
     rw [List.getElem?_set_self (by rw [HYL.out];exact hlt)]
    ·rw [List.getElem?_set_ne (by omega)]
     exact HYS.out j (by omega)
   ·have hkn:k=n:=by omega
    have hm:ys=Zge q n:=Zm7 hyl (by rw [<-hkn];exact hys)
    have OW:=hide hown;have HM:=hide hm;have KN:=hide hkn;clear hkn hown hm hyl hys
    go_wp2
    go_ret
    exact⟨Zb6 (by rw [KN.out]),by rw [<-HM.out];exact OW.out,hnx⟩
theorem ZhP (v:Value)(n:Nat)(q:Int)(w:World)(h1:ZaC w v (Zge q n) w.heap.size)(hn:n<=1048576)(hq:0<=q)(hq2:q<=1000000000):
  Calls Tryz.prog 106 #[v,.int .i64 q] w fun e w'=>e=.returned (.int .i64 (q+2*(n:Int)))/\w=w':=by
 obtain⟨a,cap,rfl⟩:=h1.shape;rw [ZdB] at *;have H1:=hide h1;clear h1
 go_enter Tryz.func106,Tryz.ntmps106
 go_wp2
 go_loop [5,1] (fun i r=>∃ k:Nat,k<=n/\i=.int .i64 k/\r=.int .i64 (q+2*(k:Int))) (fun i _=>n-(intOf i).toNat)
 case atStart=>exact ⟨0,by omega,rfl,by simp⟩
 case round=>
  obtain⟨k,hk,rfl,rfl⟩:=hrel;by_cases hlt:k<n
  ·have hki:(0:Int)<=(k:Int):=by omega
   have hkj:(k:Int)<(n:Int):=by omega
   obtain⟨b,off,cap',hve,hbb,s0,s1⟩:=H1.out.cells k (mk q k) (by simp [Zge,hlt])
   rw [ZdB] at hve;cases hve
   simp only [mk] at s0 s1
   go_wp2
   go_round
   case rel=>exact ⟨k+1,by omega,by go_num,by go_num⟩
   case measure=>simp [intOf];omega
  ·have hkn:k=n:=by omega
   have KN:=hide hkn;clear hkn
   go_wp2
   go_ret
   exact⟨Zb6 (by rw [KN.out]),rfl⟩
def Zd6 (x:RecD)(v1:Value):Value:=
 if x.kind=1 then .tuple #[.iface 264 (.agg (recC x v1)),.bool true]
 else if x.kind=2 then .tuple #[.iface 265 (.agg (recC x v1)),.bool true]
 else if x.kind=3 then .tuple #[.iface 266 (.agg (recC x v1)),.bool true]
 else .tuple #[.nilIface,.bool false]
theorem Zou (v1:Value)(x:RecD)(w:World):
  Calls Tryz.prog 193 #[.agg (recC x v1)] w fun e w'=>e=.returned (Zd6 x v1)/\Below w.heap.size w w':=by
 have hV:Zd6 x v1=Zd6 x v1:=rfl;obtain⟨area,kind,owner,key,seq,ns,cost,far⟩:=x;by_cases hk1:kind=1
 ·subst hk1
  have e:Zd6 ⟨area,1,owner,key,seq,ns,cost,far⟩ v1=.tuple #[.iface 264 (.agg (recC ⟨area,1,owner,key,seq,ns,cost,far⟩ v1)),.bool true]:=rfl;rw [e];unfold recC;simp only []
  clear e hV
  go_enter Tryz.func193,Tryz.ntmps193
  go_wp2
  go_ret2
  exact⟨rfl,(Below.refl _ _).alloc (Nat.le_refl _) _⟩
 have k1:(kind==1)=false:=by simpa using hk1
 by_cases hk2:kind=2
 ·subst hk2
  have e:Zd6 ⟨area,2,owner,key,seq,ns,cost,far⟩ v1=.tuple #[.iface 265 (.agg (recC ⟨area,2,owner,key,seq,ns,cost,far⟩ v1)),.bool true]:=rfl;rw [e];unfold recC;simp only []
  clear e hV k1 hk1
  go_enter Tryz.func193,Tryz.ntmps193
  go_wp2
  go_ret2
  exact⟨rfl,(Below.refl _ _).alloc (Nat.le_refl _) _⟩
 have k2:(kind==2)=false:=by simpa using hk2
 by_cases hk3:kind=3
 ·subst hk3
  have e:Zd6 ⟨area,3,owner,key,seq,ns,cost,far⟩ v1=.tuple #[.iface 266 (.agg (recC ⟨area,3,owner,key,seq,ns,cost,far⟩ v1)),.bool true]:=rfl;rw [e];unfold recC;simp only []
  clear e hV k1 hk1 k2 hk2
  go_enter Tryz.func193,Tryz.ntmps193
  go_wp2
  go_ret2
  exact⟨rfl,(Below.refl _ _).alloc (Nat.le_refl _) _⟩
 have k3:(kind==3)=false:=by simpa using hk3
 have e:Zd6 ⟨area,kind,owner,key,seq,ns,cost,far⟩ v1=.tuple #[.nilIface,.bool false]:=by unfold Zd6;rw [if_neg hk1,if_neg hk2,if_neg hk3]
 rw [e];unfold recC;simp only []
 clear e hV hk1 hk2 hk3
 go_enter Tryz.func193,Tryz.ntmps193
 go_wp2
 go_ret2
 exact⟨rfl,(Below.refl _ _).alloc (Nat.le_refl _) _⟩
theorem Zj8 (v1:Value)(x:RecD)(w:World):
  Calls Tryz.prog 331 #[.agg (recC x v1)] w fun e w'=>e=.returned (.bool (inB x.area 0 2&&x.key==0))/\Below w.heap.size w w':=by
 obtain⟨area,kind,owner,key,seq,ns,cost,far⟩:=x;unfold recC;simp only []
 have H1:=hide (Za3 area 0 2);obtain⟨q1,hq1⟩:∃ q,q=inB area 0 2:=⟨_,rfl⟩;rw [<-hq1] at H1 |-;clear hq1
 go_enter Tryz.func331,Tryz.ntmps331
 go_wp2_with fail
 refine (H1.out _).mono ?_
 rintro e w1 ⟨rfl,rfl⟩;cases q1
 ·go_wp2
  go_ret
  exact⟨by simp,(Below.refl _ _).alloc (Nat.le_refl _) _⟩
 ·go_wp2
  go_ret
  exact⟨by simp,(Below.refl _ _).alloc (Nat.le_refl _) _⟩
theorem Zhy (v1:Value)(x:RecD)(w:World):
  Calls Tryz.prog 332 #[.agg (recC x v1)] w fun e w'=>e=.returned (.bool (inB x.area 0 2&&inB x.key 1 6))/\Below w.heap.size w w':=by
 obtain⟨area,kind,owner,key,seq,ns,cost,far⟩:=x;unfold recC;simp only []
 have H1:=hide (Za3 area 0 2);have H2:=hide (Za3 key 1 6);obtain⟨q1,hq1⟩:∃ q,q=inB area 0 2:=⟨_,rfl⟩;obtain⟨q2,hq2⟩:∃ q,q=inB key 1 6:=⟨_,rfl⟩;rw [<-hq1] at H1 |-;rw [<-hq2] at H2 |-;clear hq1 hq2
 go_enter Tryz.func332,Tryz.ntmps332
 go_wp2_with fail
 refine (H1.out _).mono ?_
 rintro e w1 ⟨rfl,rfl⟩;cases q1
 ·go_wp2
  go_ret
  exact⟨by simp,(Below.refl _ _).alloc (Nat.le_refl _) _⟩
 ·go_wp2_with fail
  refine (H2.out _).mono ?_
  rintro e w1 ⟨rfl,rfl⟩
  go_wp2
  go_ret
  exact⟨by simp,(Below.refl _ _).alloc (Nat.le_refl _) _⟩
theorem Zjh (v1:Value)(x:RecD)(w:World):
  Calls Tryz.prog 333 #[.agg (recC x v1)] w fun e w'=>e=.returned (.bool (x.area==9&&inB x.key 1 9))/\Below w.heap.size w w':=by
 obtain⟨area,kind,owner,key,seq,ns,cost,far⟩:=x;unfold recC;simp only []
 have H2:=hide (Za3 key 1 9);obtain⟨q2,hq2⟩:∃ q,q=inB key 1 9:=⟨_,rfl⟩;rw [<-hq2] at H2 |-;clear hq2;by_cases ha:area=9
 ·subst ha
  go_enter Tryz.func333,Tryz.ntmps333
  go_wp2_with fail
  refine (H2.out _).mono ?_
  rintro e w1 ⟨rfl,rfl⟩
  go_wp2
  go_ret
  exact⟨by simp,(Below.refl _ _).alloc (Nat.le_refl _) _⟩
 ·have hd:(area==9)=false:=by simpa using ha
  go_enter Tryz.func333,Tryz.ntmps333
  go_wp2
  go_ret
  exact⟨by simp [hd],(Below.refl _ _).alloc (Nat.le_refl _) _⟩
end Go.Proofs.YtadokhjefnkajaaGreat
