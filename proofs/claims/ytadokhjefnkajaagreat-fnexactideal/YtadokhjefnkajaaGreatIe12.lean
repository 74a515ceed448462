/-
  IBefM NetOkS MarkL OpenNet
-/
import Derived.Test.YtadokhjefnkajaaGreatIe10
import Derived.Test.YtadokhjefnkajaaGreatIe3
import Derived.Test.YtadokhjefnkajaaGreatIe9
import Derived.Test.YtadokhjefnkajaaGreatIe6
import Derived.Test.YtadokhjefnkajaaGreatIe4
namespace Go.Proofs.YtadokhjefnkajaaGreat
open Go.RowKit
set_option linter.unusedSimpArgs false
set_option linter.unusedVariables false
set_option maxRecDepth 100000
set_option maxHeartbeats 8000000
def cmpK (a b c d:Int):Int:=if a=0 then (if b=0 then (if c=0 then d else c) else b) else a
theorem Zoa (x y:RecD):decide (cmpK (cmpN x.area y.area) (cmpN x.kind y.kind) (cmpN x.owner y.owner) (cmpN x.key y.key)<0)=Zam x y:=by
 unfold cmpK Zam;by_cases h1:x.area=y.area
 ·rw [if_pos (Za4.2 h1)]
  by_cases h2:x.kind=y.kind
  ·rw [if_pos (Za4.2 h2)]
   by_cases h3:x.owner=y.owner
   ·rw [if_pos (Za4.2 h3)]
    simp [Zdh,h1,h2,h3]
   ·rw [if_neg (fun h=>h3 (Za4.1 h))]
    simp [Zdh,h1,h2,h3]
  ·rw [if_neg (fun h=>h2 (Za4.1 h))]
   simp [Zdh,h1,h2]
 ·rw [if_neg (fun h=>h1 (Za4.1 h))]
  simp [Zdh,h1]
theorem Zi8 (p q:Nat)(a b c d a' b' c' d':Int)(w:World)(h:Zd5 w p a b c d)(h':Zd5 w q a' b' c' d'):
  Calls Tryz.prog 230 #[.slice (some ⟨p,0,none⟩) 4 4,.slice (some ⟨q,0,none⟩) 4 4] w fun e w'=>e=.returned (.int .i64 (cmpK (cmpN a a') (cmpN b b') (cmpN c c') (cmpN d d')))/\w=w':=by
 obtain⟨⟨h0,h1,h2,h3⟩,_⟩:=h;obtain⟨⟨g0,g1,g2,g3⟩,_⟩:=h';have C0:=hide (ZbN a a');have C1:=hide (ZbN b b');have C2:=hide (ZbN c c');have C3:=hide (ZbN d d');generalize cmpN a a'=k0 at C0 |-;generalize cmpN b b'=k1 at C1 |-;generalize cmpN c c'=k2 at C2 |-;generalize cmpN d d'=k3 at C3 |-
 go_enter Tryz.func230,Tryz.ntmps230
 go_wp2
 refine wp_loop_rounds 5 ?_
 rw [rounds_succ]
 go_wp2_with fail
 refine (C0.out _).mono ?_
 rintro e w1 ⟨rfl,rfl⟩;by_cases z0:k0=0
 case neg=>
  have hd:(k0 != 0)=true:=by simpa using z0
  have E0:=hide (show cmpK k0 k1 k2 k3=k0 by unfold cmpK;rw [if_neg z0])
  clear z0
  go_wp2
  go_ret
  exact⟨Zi7 E0.out,rfl⟩
 subst z0
 go_wp2
 rw [rounds_succ]
 go_wp2_with fail
 refine (C1.out _).mono ?_
 rintro e w1 ⟨rfl,rfl⟩;by_cases z1:k1=0
 case neg=>
  have hd:(k1 != 0)=true:=by simpa using z1
  have E0:=hide (show cmpK 0 k1 k2 k3=k1 by unfold cmpK;rw [if_pos rfl,if_neg z1])
  clear z1
  go_wp2
  go_ret
  exact⟨Zi7 E0.out,rfl⟩
 subst z1
 go_wp2
 rw [rounds_succ]
 go_wp2_with fail
 refine (C2.out _).mono ?_
 rintro e w1 ⟨rfl,rfl⟩;by_cases z2:k2=0
 case neg=>
  have hd:(k2 != 0)=true:=by simpa using z2
  have E0:=hide (show cmpK 0 0 k2 k3=k2 by unfold cmpK;rw [if_pos rfl,if_pos rfl,if_neg z2])
  clear z2
  go_wp2
  go_ret
  exact⟨Zi7 E0.out,rfl⟩
 subst z2
 go_wp2
 rw [rounds_succ]
 go_wp2_with fail
 refine (C3.out _).mono ?_
 rintro e w1 ⟨rfl,rfl⟩;by_cases z3:k3=0
 case neg=>
  have hd:(k3 != 0)=true:=by simpa using z3
  have E0:=hide (show cmpK 0 0 0 k3=k3 by unfold cmpK;rfl)
  clear z3
  go_wp2
  go_ret
  exact⟨Zi7 E0.out,rfl⟩
 subst z3
 go_wp2
 rw [rounds_succ]
 go_wp2
 go_ret
 exact⟨Zi7 rfl,rfl⟩
theorem Zh1 (a b c d a' b' c' d':Int)(w:World):Calls Tryz.prog 190 #[.agg #[.int .i64 a,.int .i64 b,.int .i64 c,.int .i64 d],.agg #[.int .i64 a',.int .i64 b',.int .i64 c',.int .i64 d']] w fun e w'=>e=.returned (.int .i64 (cmpK (cmpN a a') (cmpN b b') (cmpN c c') (cmpN d d')))/\Below w.heap.size w w':=by
 obtain⟨r,hr⟩:∃ r,r=cmpK (cmpN a a') (cmpN b b') (cmpN c c') (cmpN d d'):=⟨_,rfl⟩;obtain⟨w1,hw1⟩:∃ w1,w1=(w.alloc (.cells #[.int .i64 a,.int .i64 b,.int .i64 c,.int .i64 d] 215)).alloc (.cells #[.int .i64 a',.int .i64 b',.int .i64 c',.int .i64 d'] 215):=⟨_,rfl⟩;have B1:Below w.heap.size w w1:=by rw [hw1];exact Zas _ _
 have p0:w1.heap[w.heap.size]? = some (.cells #[.int .i64 a,.int .i64 b,.int .i64 c,.int .i64 d] 215):=by rw [hw1,Below.heap_alloc _ _ _ (by simp),heap_alloc_new]
 have q0:w1.heap[w.heap.size+1]? = some (.cells #[.int .i64 a',.int .i64 b',.int .i64 c',.int .i64 d'] 215):=by
  rw [hw1];have:=heap_alloc_new (w.alloc (.cells #[.int .i64 a,.int .i64 b,.int .i64 c,.int .i64 d] 215)) (.cells #[.int .i64 a',.int .i64 b',.int .i64 c',.int .i64 d'] 215)
  simpa using this
 have kp:Zd5 w1 w.heap.size a b c d:=⟨⟨Zaa p0 0,Zaa p0 1,Zaa p0 2,Zaa p0 3⟩,Zaf p0 0,Zaf p0 1,Zaf p0 2,Zaf p0 3⟩;have kq:Zd5 w1 (w.heap.size+1) a' b' c' d':=⟨⟨Zaa q0 0,Zaa q0 1,Zaa q0 2,Zaa q0 3⟩,Zaf q0 0,Zaf q0 1,Zaf q0 2,Zaf q0 3⟩;have HC:=hide (fun W' (h:w1.heap=W'.heap)=>Zi8 w.heap.size (w.heap.size+1) a b c d a' b' c' d' W' (kp.same h) (kq.same h))
 rw [<-hr] at HC |-;clear kp kq p0 q0 hr
 go_enter Tryz.func190,Tryz.ntmps190
 go_wp2
 rw [<-hw1];clear hw1
 go_region_held3 (fun W'=>w1.heap=W'.heap) (first | rfl | assumption | go_keep) (first | (go_at_call 230;refine (HC.out _ ?_).mono ?_;(first | rfl | assumption);rintro e w3 ⟨rfl,rfl⟩))
 go_wp2
 go_ret
 exact⟨rfl,B1.drew⟩
def ZaY (n:Int)(l:Lk):Bool:=inB n 1 6&&inB l.a 1 n&&inB l.b 1 n&&decide (l.a<l.b)&&inB l.c 1 1000&&inB l.r 0 2
def Zio (a b:Lk):Bool:=decide (a.a<b.a)||(a.a==b.a&&(decide (a.b<b.b)||(a.b==b.b&&decide (a.r<b.r))))
def Zjg (a b:Th):Bool:=decide (a.k<b.k)||(a.k==b.k&&decide (a.o<b.o))
theorem Zkj (n:Int)(l:Lk)(w:World):Calls Tryz.prog 160 #[.int .i64 n,lkV l] w fun e w'=>e=.returned (.bool (ZaY n l))/\Below w.heap.size w w':=by
 obtain⟨a,b,c,r⟩:=l;unfold lkV ZaY;simp only []
 generalize hq1:inB n 1 6=q1;generalize hq2:inB a 1 n=q2;generalize hq3:inB b 1 n=q3;generalize hq4:inB c 1 1000=q4;generalize hq5:inB r 0 2=q5;have h1:=ZbO n 1 6;have h2:=ZbO a 1 n;have h3:=ZbO b 1 n;have h4:=ZbO c 1 1000;have h5:=ZbO r 0 2;rw [hq1] at h1;rw [hq2] at h2;rw [hq3] at h3;rw [hq4] at h4;rw [hq5] at h5;have H1:=hide h1;have H2:=hide h2;have H3:=hide h3;have H4:=hide h4;have H5:=hide h5;clear h1 h2 h3 h4 h5 hq1 hq2 hq3 hq4 hq5;cases q1
 ·go_enter Tryz.func160,Tryz.ntmps160
  go_wp2_with fail
  refine (H1.out _).mono ?_
  rintro e w1 ⟨rfl,rfl⟩
  go_wp2
  go_ret
  exact⟨by simp,(Below.refl _ _).alloc (Nat.le_refl _) _⟩
 cases q2
 ·go_enter Tryz.func160,Tryz.ntmps160
  go_wp2_with fail
  refine (H1.out _).mono ?_
  rintro e w1 ⟨rfl,rfl⟩
  go_wp2_with fail
  refine (H2.out _).mono ?_
  rintro e w1 ⟨rfl,rfl⟩
  go_wp2
  go_ret
  exact⟨by simp,(Below.refl _ _).alloc (Nat.le_refl _) _⟩
 cases q3
 ·go_enter Tryz.func160,Tryz.ntmps160
  go_wp2_with fail
  refine (H1.out _).mono ?_
  rintro e w1 ⟨rfl,rfl⟩
  go_wp2_with fail
  refine (H2.out _).mono ?_
  rintro e w1 ⟨rfl,rfl⟩
  go_wp2_with fail
  refine (H3.out _).mono ?_
  rintro e w1 ⟨rfl,rfl⟩
  go_wp2
  go_ret
  exact⟨by simp,(Below.refl _ _).alloc (Nat.le_refl _) _⟩
 by_cases hab:a<b
 ·cases q4
  ·go_enter Tryz.func160,Tryz.ntmps160
   go_wp2_with fail
   refine (H1.out _).mono ?_
   rintro e w1 ⟨rfl,rfl⟩
   go_wp2_with fail
   refine (H2.out _).mono ?_
   rintro e w1 ⟨rfl,rfl⟩
   go_wp2_with fail
   refine (H3.out _).mono ?_
   rintro e w1 ⟨rfl,rfl⟩
   go_wp2_with fail
   refine (H4.out _).mono ?_
   rintro e w1 ⟨rfl,rfl⟩
   go_wp2
   go_ret
   exact⟨by simp,(Below.refl _ _).alloc (Nat.le_refl _) _⟩
  ·go_enter Tryz.func160,Tryz.ntmps160
   go_wp2_with fail
   refine (H1.out _).mono ?_
   rintro e w1 ⟨rfl,rfl⟩
   go_wp2_with fail
   refine (H2.out _).mono ?_
   rintro e w1 ⟨rfl,rfl⟩
   go_wp2_with fail
   refine (H3.out _).mono ?_
   rintro e w1 ⟨rfl,rfl⟩
   go_wp2_with fail
   refine (H4.out _).mono ?_
   rintro e w1 ⟨rfl,rfl⟩
   go_wp2_with fail
   refine (H5.out _).mono ?_
   rintro e w1 ⟨rfl,rfl⟩
   go_wp2
   go_ret
   exact⟨Zai (by rw [decide_eq_true hab];simp),(Below.refl _ _).alloc (Nat.le_refl _) _⟩
 ·go_enter Tryz.func160,Tryz.ntmps160
  go_wp2_with fail
  refine (H1.out _).mono ?_
  rintro e w1 ⟨rfl,rfl⟩
  go_wp2_with fail
  refine (H2.out _).mono ?_
  rintro e w1 ⟨rfl,rfl⟩
  go_wp2_with fail
  refine (H3.out _).mono ?_
  rintro e w1 ⟨rfl,rfl⟩
  go_wp2
  go_ret
  exact⟨Zai (by rw [decide_eq_false (show ¬a<b by omega)];simp),(Below.refl _ _).alloc (Nat.le_refl _) _⟩
theorem Zl1 (l m:Lk)(w:World):Calls Tryz.prog 161 #[lkV l,lkV m] w fun e w'=>e=.returned (.bool (Zio l m))/\Below w.heap.size w w':=by
 obtain⟨a,b,c,r⟩:=l;obtain⟨a',b',c',r'⟩:=m;unfold lkV
 go_enter Tryz.func161,Tryz.ntmps161
 go_wp2
 all_goals go_ret
 all_goals refine ⟨Zai ?_,Zas _ _⟩
 all_goals (simp only [Zio];grind)
theorem Zl9 (l m:Th)(w:World):Calls Tryz.prog 162 #[thV l,thV m] w fun e w'=>e=.returned (.bool (Zjg l m))/\Below w.heap.size w w':=by
 obtain⟨a,b,c,r⟩:=l;obtain⟨a',b',c',r'⟩:=m;unfold thV
 go_enter Tryz.func162,Tryz.ntmps162
 go_wp2
 all_goals go_ret
 all_goals refine ⟨Zai ?_,Zas _ _⟩
 all_goals (simp only [Zjg];grind)
def ZlM (q:Int)(i:Nat):Lk:=⟨q+4*(i:Int),q+4*(i:Int)+1,q+4*(i:Int)+1+1,q+4*(i:Int)+1+1+1⟩
def Zgf (q:Int)(n:Nat):List Lk:=(List.range n).map (ZlM q)
theorem ZlI (q:Int)(n:Nat):(Zgf q n).length=n:=by simp [Zgf]
theorem ZlH {q:Int}{n:Nat}{ys:List Lk}(hl:ys.length=n)(h:∀ j,j<n->ys[j]? = some (ZlM q j)):ys=Zgf q n:=by
 apply List.ext_getElem?
 intro i;by_cases hi:i<n
 ·rw [h i hi]
  simp [Zgf,hi]
 ·rw [List.getElem?_eq_none (by omega),List.getElem?_eq_none (by rw [ZlI];omega)]
theorem ZhV (v:Value)(base n:Nat)(ns:List Lk)(q:Int)(w:World)(hn0:ns.length=n)(h1:w.ownsRow base 174 4 v n (flat lkE ns))(hn:n<=1048576)(hq:0<=q)(hq2:q<=1000000000):
  Calls Tryz.prog 116 #[v,.int .i64 q] w fun e w'=>e=.returned (.int .i64 (q+4*(n:Int)))/\w'.ownsRow base 174 4 v n (flat lkE (Zgf q n))/\w.grownBy w' v.ownBlock:=by
 by_cases h0:n=0
 ·subst h0
  obtain⟨a1,c1,rfl⟩:=Zac h1;have hnn:ns=[]:=List.length_eq_zero_iff.1 hn0;have H1:=hide h1;rw [hnn] at H1;clear h1 hn0 hnn
  go_enter Tryz.func116,Tryz.ntmps116
  go_wp2
  refine wp_loop_rounds 1 ?_
  rw [rounds_succ]
  go_wp2
  go_ret
  exact⟨by simp,H1.out,Zbd _ _⟩
 ·obtain ⟨g1,c1,rfl,hg1,hl1⟩:=ZbQ h1 (by omega)
  have H1:=hide h1;have HN0:=hide hn0;clear h1 h0 hn0
  go_enter Tryz.func116,Tryz.ntmps116
  go_wp2
  go_loopw [5,1] (fun i r wr=>∃ (k:Nat) (ys:List Lk),k<=n/\i=.int .i64 k/\r=.int .i64 (q+4*(k:Int))/\ys.length=n/\(∀ j,j<k->ys[j]? = some (ZlM q j))/\wr.ownsRow base 174 4 (.slice (some ⟨g1,0,none⟩) n c1) n (flat lkE ys)/\w.grownBy wr (some g1)) (fun i _ _=>n-(intOf i).toNat)
  case atStart=>exact ⟨0,ns,by omega,rfl,by simp,HN0.out,by omega,H1.out,Zbd _ _⟩
  case round=>
   clear H1;obtain⟨k,ys,hk,rfl,rfl,hyl,hys,hown,hnx⟩:=hrel;by_cases hlt:k<n
   ·have hki:(0:Int)<=(k:Int):=by omega
    have hkj:(k:Int)<(n:Int):=by omega
    obtain⟨u0,d0⟩:=ZaG hown (k*4) (by omega)
    obtain⟨u1,d1⟩:=ZaG hown (k*4+1) (by omega)
    obtain⟨u2,d2⟩:=ZaG hown (k*4+2) (by omega)
    obtain⟨u3,d3⟩:=ZaG hown (k*4+3) (by omega)
    have f0:=hown.frozenAt (k*4);have f1:=hown.frozenAt (k*4+1);have f2:=hown.frozenAt (k*4+2);have f3:=hown.frozenAt (k*4+3);have st:=((((hown.stored (k*4) (.int .i64 (q+4*(k:Int)))).1.stored (k*4+1) (.int .i64 (q+4*(k:Int)+1))).1.stored (k*4+2) (.int .i64 (q+4*(k:Int)+1+1))).1.stored (k*4+3) (.int .i64 (q+4*(k:Int)+1+1+1))).1;have e1:(((((flat lkE ys).set (k*4) (.int .i64 (q+4*(k:Int)))).set (k*4+1) (.int .i64 (q+4*(k:Int)+1))).set (k*4+2) (.int .i64 (q+4*(k:Int)+1+1))).set (k*4+3) (.int .i64 (q+4*(k:Int)+1+1+1)))=flat lkE (ys.set k (ZlM q k)):=Zcr Zgc ys k (ZlM q k) (by omega)
    rw [e1] at st;have ST:=hide st;have HYL:=hide hyl;have HYS:=hide hys;clear hown st e1 hyl hys
    go_wp2
    refine⟨⟨k+1,ys.set k (ZlM q k),by omega,by go_num,by go_num,by simp [HYL.out],?_,ST.out,Zah (Zah (Zah (Zah hnx (Zaq _ _ _ _)) (Zaq _ _ _ _)) (Zaq _ _ _ _)) (Zaq _ _ _ _)⟩,by simp [intOf];omega⟩
    intro j hj;by_cases e:j=k
    ·subst e
     rw [List.getElem?_set_self (by rw [HYL.out];exact hlt)]
    ·rw [List.getElem?_set_ne (by omega)]
     exact HYS.out j (by omega)
   ·have hkn:k=n:=by omega
    have hm:ys=Zgf q n:=ZlH hyl (by rw [<-hkn];exact hys)
    have OW:=hide hown;have HM:=hide hm;have KN:=hide hkn;clear hkn hown hm hyl hys
    go_wp2
    go_ret
    exact⟨Zb6 (by rw [KN.out]),by rw [<-HM.out];exact OW.out,hnx⟩
def ZlN (q:Int)(i:Nat):Th:=⟨q+4*(i:Int),q+4*(i:Int)+1,q+4*(i:Int)+1+1,(q+4*(i:Int)+1+1+1)%3==0⟩
def Zgg (q:Int)(n:Nat):List Th:=(List.range n).map (ZlN q)
theorem ZlK (q:Int)(n:Nat):(Zgg q n).length=n:=by simp [Zgg]
theorem ZlJ {q:Int}{n:Nat}{ys:List Th}(hl:ys.length=n)(h:∀ j,j<n->ys[j]? = some (ZlN q j)):ys=Zgg q n:=by
 apply List.ext_getElem?
 intro i;by_cases hi:i<n
 ·rw [h i hi]
  simp [Zgg,hi]
 ·rw [List.getElem?_eq_none (by omega),List.getElem?_eq_none (by rw [ZlK];omega)]
theorem ZgK (v:Value)(base n:Nat)(ns:List Th)(q:Int)(w:World)(hn0:ns.length=n)(h1:w.ownsRow base 120 4 v n (flat thE ns))(hn:n<=1048576)(hq:0<=q)(hq2:q<=1000000000):
  Calls Tryz.prog 117 #[v,.int .i64 q] w fun e w'=>e=.returned (.int .i64 (q+4*(n:Int)))/\w'.ownsRow base 120 4 v n (flat thE (Zgg q n))/\w.grownBy w' v.ownBlock:=by
 by_cases h0:n=0
 ·subst h0
  obtain⟨a1,c1,rfl⟩:=Zac h1;have hnn:ns=[]:=List.length_eq_zero_iff.1 hn0;have H1:=hide h1;rw [hnn] at H1;clear h1 hn0 hnn
  go_enter Tryz.func117,Tryz.ntmps117
  go_wp2
  refine wp_loop_rounds 1 ?_
  rw [rounds_succ]
  go_wp2
  go_ret
  exact⟨by simp,H1.out,Zbd _ _⟩
 ·obtain ⟨g1,c1,rfl,hg1,hl1⟩:=ZbQ h1 (by omega)
  have H1:=hide h1;have HN0:=hide hn0;clear h1 h0 hn0
  go_enter Tryz.func117,Tryz.ntmps117
  go_wp2
  go_loopw [5,1] (fun i r wr=>∃ (k:Nat) (ys:List Th),k<=n/\i=.int .i64 k/\r=.int .i64 (q+4*(k:Int))/\ys.length=n/\(∀ j,j<k->ys[j]? = some (ZlN q j))/\wr.ownsRow base 120 4 (.slice (some ⟨g1,0,none⟩) n c1) n (flat thE ys)/\w.grownBy wr (some g1)) (fun i _ _=>n-(intOf i).toNat)
  case atStart=>exact ⟨0,ns,by omega,rfl,by simp,HN0.out,by omega,H1.out,Zbd _ _⟩
  case round=>
   clear H1;obtain⟨k,ys,hk,rfl,rfl,hyl,hys,hown,hnx⟩:=hrel;by_cases hlt:k<n
   ·have hki:(0:Int)<=(k:Int):=by omega
    have hkj:(k:Int)<(n:Int):=by omega
    obtain⟨u0,d0⟩:=ZaG hown (k*4) (by omega)
    obtain⟨u1,d1⟩:=ZaG hown (k*4+1) (by omega)
    obtain⟨u2,d2⟩:=ZaG hown (k*4+2) (by omega)
    obtain⟨u3,d3⟩:=ZaG hown (k*4+3) (by omega)
    have f0:=hown.frozenAt (k*4);have f1:=hown.frozenAt (k*4+1);have f2:=hown.frozenAt (k*4+2);have f3:=hown.frozenAt (k*4+3);have st:=((((hown.stored (k*4) (.int .i64 (q+4*(k:Int)))).1.stored (k*4+1) (.int .i64 (q+4*(k:Int)+1))).1.stored (k*4+2) (.int .i64 (q+4*(k:Int)+1+1))).1.stored (k*4+3) (.bool ((q+4*(k:Int)+1+1+1)%3==0))).1;have e1:(((((flat thE ys).set (k*4) (.int .i64 (q+4*(k:Int)))).set (k*4+1) (.int .i64 (q+4*(k:Int)+1))).set (k*4+2) (.int .i64 (q+4*(k:Int)+1+1))).set (k*4+3) (.bool ((q+4*(k:Int)+1+1+1)%3==0)))=flat thE (ys.set k (ZlN q k)):=Zcr ZgC ys k (ZlN q k) (by omega)
    rw [e1] at st;have ST:=hide st;have HYL:=hide hyl;have HYS:=hide hys;clear hown st e1 hyl hys
    go_wp2
    refine⟨⟨k+1,ys.set k (ZlN q k),by omega,by go_num,by go_num,by simp [HYL.out],?_,ST.out,Zah (Zah (Zah (Zah hnx (Zaq _ _ _ _)) (Zaq _ _ _ _)) (Zaq _ _ _ _)) (Zaq _ _ _ _)⟩,by simp [intOf];omega⟩
    intro j hj;by_cases e:j=k
    ·subst e
     rw [List.getElem?_set_self (by rw [HYL.out];exact hlt)]
    ·rw [List.getElem?_set_ne (by omega)]
     exact HYS.out j (by omega)
   ·have hkn:k=n:=by omega
    have hm:ys=Zgg q n:=ZlJ hyl (by rw [<-hkn];exact hys)
    have OW:=hide hown;have HM:=hide hm;have KN:=hide hkn;clear hkn hown hm hyl hys
    go_wp2
    go_ret
    exact⟨Zb6 (by rw [KN.out]),by rw [<-HM.out];exact OW.out,hnx⟩
end Go.Proofs.YtadokhjefnkajaaGreat
namespace Go.Proofs.YtadokhjefnkajaaGreat
open Go.RowKit Go.ChangeShapes Go.WideShapes

section
variable {H:Type} {enc:TypeId × Value->H} {w:World} {base:Nat} {spare:Nat->Bool} {held:Bool}

instance:Inhabited Lk:=⟨⟨0,0,0,0⟩⟩
instance:Inhabited Th:=⟨⟨0,0,0,false⟩⟩

theorem Zng {fuel:Nat}{cs:List Value}{x:DataW H × List MemPlace}(h:DataW.trod enc Tryz.prog w base spare held fuel 205 cs=some x):∃ l:Lk,cs=lkE l:=by
 obtain⟨v0,v1,v2,v3,n,y0,y1,y2,y3,rfl,h0,h1,h2,h3⟩:=Zi1 Tryz.underlying205 (by kernel_rfl) rfl rfl rfl rfl (by kernel_rfl) (by kernel_rfl) (by kernel_rfl) (by kernel_rfl) h
 obtain⟨a,ha,_⟩:=DataW.trod_int Tryz.underlying3 h0;obtain⟨b,hb,_⟩:=DataW.trod_int Tryz.underlying3 h1;obtain⟨c,hc,_⟩:=DataW.trod_int Tryz.underlying3 h2;obtain⟨r,hr,_⟩:=DataW.trod_int Tryz.underlying3 h3;exact⟨⟨a,b,c,r⟩,by cases ha;cases hb;cases hc;cases hr;rfl⟩

theorem ZlR {fuel:Nat}{cs:List Value}{x:DataW H × List MemPlace}(h:DataW.trod enc Tryz.prog w base spare held fuel 207 cs=some x):∃ l:Th,cs=thE l:=by
 obtain⟨v0,v1,v2,v3,n,y0,y1,y2,y3,rfl,h0,h1,h2,h3⟩:=Zi1 Tryz.underlying207 (by kernel_rfl) rfl rfl rfl rfl (by kernel_rfl) (by kernel_rfl) (by kernel_rfl) (by kernel_rfl) h
 obtain⟨a,ha,_⟩:=DataW.trod_int Tryz.underlying3 h0;obtain⟨b,hb,_⟩:=DataW.trod_int Tryz.underlying3 h1;obtain⟨c,hc,_⟩:=DataW.trod_int Tryz.underlying3 h2;obtain⟨r,hr,_⟩:=DataW.trod_bool Tryz.underlying4 h3;exact⟨⟨a,b,c,r⟩,by cases ha;cases hb;cases hc;cases hr;rfl⟩

set_option maxRecDepth 100000 in
theorem ZoK {r:Reach}{b0:Nat}{v:Value}{d:DataW H}{ps:List MemPlace}(hval:Value.okWide Tryz.prog w r b0 59 v)(hd:DataW.Trod enc Tryz.prog w base spare held 59 v d ps):
  ∃ x:NetD,Zfy w v x w.heap.size/\(Lit.int .i64 x.n).wf=true/\x.ls.length<=maxLen/\x.ts.length<=maxLen:=by
 obtain⟨cs,rfl,hcs⟩:=okWide_struct Tryz.underlying59 hval;obtain⟨fuel,hf⟩:=hd;obtain⟨xs,k,hk,hxy,hcl,hxl,hfl⟩:=DataW.trod_struct Tryz.underlying59 hf;have hc3:Tryz.prog.cellsOf 59=3:=by kernel_rfl
 rw [hc3] at hcs hcl;obtain⟨v0,v1,v2,rfl⟩:∃ v0 v1 v2,cs=#[v0,v1,v2]:=by
  obtain⟨l⟩:=cs
  match l,hcs with
  | [v0,v1,v2],_=>exact ⟨v0,v1,v2,rfl⟩
 have g0:=hfl 0 _ rfl;have g1:=hfl 1 _ rfl;have g2:=hfl 2 _ rfl;have k0:Tryz.prog.cellsOf 3=1:=by kernel_rfl
 have k1:Tryz.prog.cellsOf 56=1:=by kernel_rfl
 have k2:Tryz.prog.cellsOf 57=1:=by kernel_rfl
 match xs,hxl with
 | [y0,y1,y2],_=>
  simp [Value.cells,k0,k1,k2] at g0 g1 g2
  obtain⟨n,hn,_,wn⟩:=DataW.trod_int Tryz.underlying3 g0;obtain⟨u1,ls,e1,hl,hll⟩:=Zfs (encE:=lkE) Zgc Tryz.underlying56 (by kernel_rfl) (fun _ _ _ h=>Zng h) g1
  obtain⟨u2,ts,e2,ht,htl⟩:=Zfs (encE:=thE) ZgC Tryz.underlying57 (by kernel_rfl) (fun _ _ _ h=>ZlR h) g2
  cases hn
  cases e1
  cases e2
  exact⟨⟨n,ls,ts⟩,⟨v1,v2,rfl,hl,ht⟩,wn,hll,htl⟩
end
end Go.Proofs.YtadokhjefnkajaaGreat
