/-
  IOrd ILink IAsc INetOk Reg
-/
import Derived.Test.YtcimbiinljcifaaGreatLn2
import Derived.Test.YtcimbiinljcifaaGreatLn1
import Derived.Deep.RegionHeld3
namespace Go.Proofs.YtcimbiinljcifaaGreat
open Go.RowKit
set_option linter.unusedSimpArgs false
set_option linter.unusedVariables false
set_option maxRecDepth 100000
set_option maxHeartbeats 8000000
def orN:List Int->Int
 | []=>0
 | x::xs=>if x=0 then orN xs else x
theorem ZgT:∀ (k:Nat)(l:List Int),(∀ j,j<k->l.getD j 0=0)->orN l=orN (l.drop k)
 | 0,l,_=>by simp
 | k+1,[],_=>by simp
 | k+1,x::xs,h=>by
  have h0:x=0:=by simpa using h 0 (by omega)
  subst h0;have e:orN (0::xs)=orN xs:=by simp [orN]
  rw [e,List.drop_succ_cons];exact ZgT k xs (fun j hj=>by simpa using h (j+1) (by omega))
theorem orN_at {k:Nat}{l:List Int}(h:∀ j,j<k->l.getD j 0=0)(hk:k<l.length)(hx:l.getD k 0≠0):orN l=l.getD k 0:=by
 rw [ZgT k l h,List.drop_eq_getElem_cons hk];have e:l.getD k 0=l[k]:=by simp [List.getElem?_eq_getElem hk]
 rw [e] at hx |-;simp only [orN]
 rw [if_neg hx]
theorem Zlu {k:Nat}{l:List Int}(h:∀ j,j<k->l.getD j 0=0)(hk:k=l.length):orN l=0:=by
 rw [ZgT k l h,List.drop_of_length_le (by omega)]
 rfl
theorem Zl2 (b n:Nat)(l:List Int)(w:World)(hn:n=l.length)(hs:l.length<=1000)(hc:∀ j,j<l.length->w.cell? ⟨b,j,none⟩=some (.int .i64 (l.getD j 0))):
  Calls Tryz.prog 118 #[.slice (some ⟨b,0,none⟩) n n] w fun e w'=>e=.returned (.int .i64 (orN l))/\w=w':=by
 subst hn;have HC:=hide hc;clear hc
 go_enter Tryz.func118,Tryz.ntmps118
 go_wp2
 go_loopw [8] (fun i wr=>∃ k:Nat,k<=l.length/\i=.int .i64 k/\(∀ j,j<k->l.getD j 0=0)/\w=wr) (fun i _=>l.length-(intOf i).toNat)
 case atStart=>exact ⟨0,by omega,rfl,by omega,rfl⟩
 case round=>
  obtain⟨k,hk,rfl,hno,rfl⟩:=hrel;have HNO:=hide hno;clear hno;by_cases hlt:k<l.length
  ·have hcell:=HC.out k hlt
   by_cases h0:l.getD k 0=0
   ·have hnx:∀ j,j<k+1->l.getD j 0=0:=fun j hj=>by
     by_cases e:j=k
     ·subst e;exact h0
     ·exact HNO.out j (by omega)
    rw [h0] at hcell;have HN:=hide hnx;clear h0 hnx
    go_wp2
    go_roundw
    case rel=>exact ⟨k+1,by omega,by go_num,HN.out,trivial⟩
    case measure=>simp [intOf];omega
   ·obtain ⟨y,hy⟩:∃ y,y=l.getD k 0:=⟨_,rfl⟩
    rw [<-hy] at hcell h0;have hor:orN l=y:=by rw [hy];exact orN_at HNO.out hlt (by rw [<-hy];exact h0)
    have HO:=hide hor;clear hy hor
    go_wp2
    go_ret
    exact⟨ZhH HO.out,rfl⟩
  ·have hk':k=l.length:=by omega
   have HK:=hide hk';clear hk'
   go_wp2
   go_ret
   exact⟨ZhH (Zlu HNO.out HK.out),rfl⟩
theorem Zlv (b:Nat)(x y z:Int)(w:World)(h0:w.cell? ⟨b,0,none⟩=some (.int .i64 x))(h1:w.cell? ⟨b,1,none⟩=some (.int .i64 y))(h2:w.cell? ⟨b,2,none⟩=some (.int .i64 z)):
  Calls Tryz.prog 118 #[.slice (some ⟨b,0,none⟩) 3 3] w fun e w'=>e=.returned (.int .i64 (orN [x,y,z]))/\w=w':=
 Zl2 b 3 [x,y,z] w rfl (by simp) (fun j hj=>by
  match j,hj with
  | 0,_=>exact h0
  | 1,_=>exact h1
  | 2,_=>exact h2
  | j+3,hj=>exact absurd hj (by simp only [List.length_cons,List.length_nil];omega))
theorem Zl3 (b:Nat)(x y:Int)(w:World)(h0:w.cell? ⟨b,0,none⟩=some (.int .i64 x))(h1:w.cell? ⟨b,1,none⟩=some (.int .i64 y)):
  Calls Tryz.prog 118 #[.slice (some ⟨b,0,none⟩) 2 2] w fun e w'=>e=.returned (.int .i64 (orN [x,y]))/\w=w':=
 Zl2 b 2 [x,y] w rfl (by simp) (fun j hj=>by
  match j,hj with
  | 0,_=>exact h0
  | 1,_=>exact h1
  | j+2,hj=>exact absurd hj (by simp only [List.length_cons,List.length_nil];omega))
theorem Zc1 (w1:World)(cs:Array Value)(t:TypeId)(j:Nat)(v:Value)(h:cs[j]? = some v):(w1.alloc (.cells cs t)).drew.cell? ⟨w1.heap.size,j,none⟩=some v:=by
 have:=Zaa (heap_alloc_new w1 (.cells cs t)) j;rw [h] at this;exact this
def ordL (l m:Lk):Int:=orN [cmpN l.a m.a,cmpN l.b m.b,cmpN l.r m.r]
def ordT (l m:Th):Int:=orN [cmpN l.k m.k,cmpN l.o m.o]
theorem Zlx (l m:Lk)(w:World):Calls Tryz.prog 114 #[lkV l,lkV m] w fun e w'=>e=.returned (.int .i64 (ordL l m))/\Below w.heap.size w w':=by
 obtain⟨a,b,c,r⟩:=l;obtain⟨a',b',c',r'⟩:=m;unfold lkV ordL;simp only []
 go_enter Tryz.func114,Tryz.ntmps114
 go_wp2
 obtain⟨w1,hw1⟩:∃ w1,w1=(w.alloc (.cells #[.int .i64 a,.int .i64 b,.int .i64 c,.int .i64 r] 127)).alloc (.cells #[.int .i64 a',.int .i64 b',.int .i64 c',.int .i64 r'] 127):=⟨_,rfl⟩;have B1:Below w.heap.size w w1:=by rw [hw1];exact ZaW _ _
 have p0:w1.heap[w.heap.size]? = some (.cells #[.int .i64 a,.int .i64 b,.int .i64 c,.int .i64 r] 127):=by rw [hw1,Below.heap_alloc _ _ _ (by simp),heap_alloc_new]
 have q0:w1.heap[w.heap.size+1]? = some (.cells #[.int .i64 a',.int .i64 b',.int .i64 c',.int .i64 r'] 127):=by
  rw [hw1];have:=heap_alloc_new (w.alloc (.cells #[.int .i64 a,.int .i64 b,.int .i64 c,.int .i64 r] 127)) (.cells #[.int .i64 a',.int .i64 b',.int .i64 c',.int .i64 r'] 127)
  simpa using this
 rw [<-hw1];clear hw1;have s0:=Zaa p0 0;have s1:=Zaa p0 1;have s3:=Zaa p0 3;have t0:=Zaa q0 0;have t1:=Zaa q0 1;have t3:=Zaa q0 3;have hz0:=Zab p0;have hz1:=Zab q0;simp at s0 s1 s3 t0 t1 t3
 clear p0 q0;have hz2:=B1.size
 go_region_held3 (fun W=>W.cell? ⟨w.heap.size,0,none⟩=some (.int .i64 a)/\W.cell? ⟨w.heap.size,1,none⟩=some (.int .i64 b)/\W.cell? ⟨w.heap.size,3,none⟩=some (.int .i64 r)/\W.cell? ⟨w.heap.size+1,0,none⟩=some (.int .i64 a')/\W.cell? ⟨w.heap.size+1,1,none⟩=some (.int .i64 b')/\W.cell? ⟨w.heap.size+1,3,none⟩=some (.int .i64 r')) (first | go_keep | assumption) (first | (go_at_call 119;refine (Zbw _ _ _).mono ?_;rintro e w' ⟨rfl,rfl⟩) | (go_at_call 118;refine (Zlv _ (cmpN a a') (cmpN b b') (cmpN r r') _ ?_ ?_ ?_).mono ?_;(exact Zc1 _ _ _ _ _ rfl);(exact Zc1 _ _ _ _ _ rfl);(exact Zc1 _ _ _ _ _ rfl);rintro e w' ⟨rfl,rfl⟩))
 go_wp2
 go_ret
 exact⟨rfl,B1.drew.alloc B1.size _⟩
theorem Zly (l m:Th)(w:World):Calls Tryz.prog 116 #[thV l,thV m] w fun e w'=>e=.returned (.int .i64 (ordT l m))/\Below w.heap.size w w':=by
 obtain⟨o,k,c,f⟩:=l;obtain⟨o',k',c',f'⟩:=m;unfold thV ordT;simp only []
 go_enter Tryz.func116,Tryz.ntmps116
 go_wp2
 obtain⟨w1,hw1⟩:∃ w1,w1=(w.alloc (.cells #[.int .i64 o,.int .i64 k,.int .i64 c,.bool f] 131)).alloc (.cells #[.int .i64 o',.int .i64 k',.int .i64 c',.bool f'] 131):=⟨_,rfl⟩;have B1:Below w.heap.size w w1:=by rw [hw1];exact ZaW _ _
 have p0:w1.heap[w.heap.size]? = some (.cells #[.int .i64 o,.int .i64 k,.int .i64 c,.bool f] 131):=by rw [hw1,Below.heap_alloc _ _ _ (by simp),heap_alloc_new]
 have q0:w1.heap[w.heap.size+1]? = some (.cells #[.int .i64 o',.int .i64 k',.int .i64 c',.bool f'] 131):=by
  rw [hw1];have:=heap_alloc_new (w.alloc (.cells #[.int .i64 o,.int .i64 k,.int .i64 c,.bool f] 131)) (.cells #[.int .i64 o',.int .i64 k',.int .i64 c',.bool f'] 131)
  simpa using this
 rw [<-hw1];clear hw1;have s0:=Zaa p0 0;have s1:=Zaa p0 1;have t0:=Zaa q0 0;have t1:=Zaa q0 1;have hz0:=Zab p0;have hz1:=Zab q0;simp at s0 s1 t0 t1
 clear p0 q0;have hz2:=B1.size
 go_region_held3 (fun W=>W.cell? ⟨w.heap.size,0,none⟩=some (.int .i64 o)/\W.cell? ⟨w.heap.size,1,none⟩=some (.int .i64 k)/\W.cell? ⟨w.heap.size+1,0,none⟩=some (.int .i64 o')/\W.cell? ⟨w.heap.size+1,1,none⟩=some (.int .i64 k')) (first | go_keep | assumption) (first | (go_at_call 119;refine (Zbw _ _ _).mono ?_;rintro e w' ⟨rfl,rfl⟩) | (go_at_call 118;refine (Zl3 _ (cmpN k k') (cmpN o o') _ ?_ ?_).mono ?_;(exact Zc1 _ _ _ _ _ rfl);(exact Zc1 _ _ _ _ _ rfl);rintro e w' ⟨rfl,rfl⟩))
 go_wp2
 go_ret
 exact⟨rfl,B1.drew.alloc B1.size _⟩
theorem Zh6 (n:Int)(l:Lk)(w:World):Calls Tryz.prog 112 #[.int .i64 n,lkV l] w fun e w'=>e=.returned (.bool (ZaY n l))/\Below w.heap.size w w':=by
 obtain⟨a,b,c,r⟩:=l;unfold lkV ZaY;simp only []
 generalize hq1:inB n 1 6=q1;generalize hq2:inB a 1 n=q2;generalize hq3:inB b 1 n=q3;generalize hq4:inB c 1 1000=q4;generalize hq5:inB r 0 2=q5;have h1:=ZaZ n 1 6;have h2:=ZaZ a 1 n;have h3:=ZaZ b 1 n;have h4:=ZaZ c 1 1000;have h5:=ZaZ r 0 2;rw [hq1] at h1;rw [hq2] at h2;rw [hq3] at h3;rw [hq4] at h4;rw [hq5] at h5;have H1:=hide h1;have H2:=hide h2;have H3:=hide h3;have H4:=hide h4;have H5:=hide h5;clear h1 h2 h3 h4 h5 hq1 hq2 hq3 hq4 hq5;cases q1
 ·go_enter Tryz.func112,Tryz.ntmps112
  go_wp2_with fail
  refine (H1.out _).mono ?_
  rintro e w1 ⟨rfl,rfl⟩
  go_wp2
  go_ret
  exact⟨by simp,(Below.refl _ _).alloc (Nat.le_refl _) _⟩
 cases q2
 ·go_enter Tryz.func112,Tryz.ntmps112
  go_wp2_with fail
  refine (H1.out _).mono ?_
  rintro e w1 ⟨rfl,rfl⟩
  go_wp2_with fail
  refine (H2.out _).mono ?_
  rintro e w1 ⟨rfl,rfl⟩
  go_wp2
  go_ret
  exact⟨by simp,(Below.refl _ _).alloc (Nat.le_refl _) _⟩
 cases q3
 ·go_enter Tryz.func112,Tryz.ntmps112
  go_wp2_with fail
  refine (H1.out _).mono ?_
  rintro e w1 ⟨rfl,rfl⟩
  go_wp2_with fail
  refine (H2.out _).mono ?_
  rintro e w1 ⟨rfl,rfl⟩
  go_wp2_with fail
  refine (H3.out _).mono ?_
  rintro e w1 ⟨rfl,rfl⟩
  go_wp2
  go_ret
  exact⟨by simp,(Below.refl _ _).alloc (Nat.le_refl _) _⟩
 by_cases hab:a<b
 ·cases q4
  ·go_enter Tryz.func112,Tryz.ntmps112
   go_wp2_with fail
   refine (H1.out _).mono ?_
   rintro e w1 ⟨rfl,rfl⟩
   go_wp2_with fail
   refine (H2.out _).mono ?_
   rintro e w1 ⟨rfl,rfl⟩
   go_wp2_with fail
   refine (H3.out _).mono ?_
   rintro e w1 ⟨rfl,rfl⟩
   go_wp2_with fail
   refine (H4.out _).mono ?_
   rintro e w1 ⟨rfl,rfl⟩
   go_wp2
   go_ret
   exact⟨by simp,(Below.refl _ _).alloc (Nat.le_refl _) _⟩
  ·go_enter Tryz.func112,Tryz.ntmps112
   go_wp2_with fail
   refine (H1.out _).mono ?_
   rintro e w1 ⟨rfl,rfl⟩
   go_wp2_with fail
   refine (H2.out _).mono ?_
   rintro e w1 ⟨rfl,rfl⟩
   go_wp2_with fail
   refine (H3.out _).mono ?_
   rintro e w1 ⟨rfl,rfl⟩
   go_wp2_with fail
   refine (H4.out _).mono ?_
   rintro e w1 ⟨rfl,rfl⟩
   go_wp2_with fail
   refine (H5.out _).mono ?_
   rintro e w1 ⟨rfl,rfl⟩
   go_wp2
   go_ret
   exact⟨Zaf (by rw [decide_eq_true hab];simp),(Below.refl _ _).alloc (Nat.le_refl _) _⟩
 ·go_enter Tryz.func112,Tryz.ntmps112
  go_wp2_with fail
  refine (H1.out _).mono ?_
  rintro e w1 ⟨rfl,rfl⟩
  go_wp2_with fail
  refine (H2.out _).mono ?_
  rintro e w1 ⟨rfl,rfl⟩
  go_wp2_with fail
  refine (H3.out _).mono ?_
  rintro e w1 ⟨rfl,rfl⟩
  go_wp2
  go_ret
  exact⟨Zaf (by rw [decide_eq_false (show ¬a<b by omega)];simp),(Below.refl _ _).alloc (Nat.le_refl _) _⟩
theorem ZkS (v:Value)(ls:List Lk)(w:World)(hls:ls.length<=1048576)(hv:Za0 w v ls w.heap.size):
  Calls Tryz.prog 113 #[v,.func (.func 114) #[] #[]] w fun e w'=>e=.returned (.bool (ascB ordL ls))/\Below w.heap.size w w':=by
 obtain⟨a,cap,rfl⟩:=hv.shape;have HV:=hide hv;clear hv
 go_enter Tryz.func113,Tryz.ntmps113
 go_wp2
 go_loopw [5] (fun i wr=>∃ k:Nat,1<=k/\(k<=ls.length\/k=1)/\i=.int .i64 k/\(∀ j,j<k->ZbA ordL ls j=true)/\Below w.heap.size w wr) (fun i _=>ls.length+1-(intOf i).toNat)
 case atStart=>exact ⟨1,by omega,by omega,rfl,fun j hj=>by (obtain rfl:j=0:=by omega);rfl,Below.refl _ _⟩
 case round=>
  obtain⟨k,hk1,hk,rfl,hno,hb⟩:=hrel;have HNO:=hide hno;clear hno;by_cases hlt:k<ls.length
  ·obtain ⟨l,hl⟩:∃ l,ls[k]? = some l:=⟨ls[k],List.getElem?_eq_getElem hlt⟩
   obtain⟨j,hj⟩:∃ j,k=j+1:=⟨k-1,by omega⟩
   obtain⟨p,hp⟩:∃ p,ls[j]? = some p:=⟨ls[j],List.getElem?_eq_getElem (by omega)⟩
   obtain⟨b,off,cap',hve,hbb,c0,c1,c2,c3⟩:=HV.out.cells k l hl;cases hve
   obtain⟨b',off',cap2,hve2,hbb2,d0,d1,d2,d3⟩:=HV.out.cells j p hp;cases hve2
   rw [<-hb.cell (p:=⟨b,off+k*4,none⟩) hbb] at c0;rw [<-hb.cell (p:=⟨b,off+k*4+1,none⟩) hbb] at c1;rw [<-hb.cell (p:=⟨b,off+k*4+2,none⟩) hbb] at c2;rw [<-hb.cell (p:=⟨b,off+k*4+3,none⟩) hbb] at c3;rw [<-hb.cell (p:=⟨b,off+j*4,none⟩) hbb] at d0;rw [<-hb.cell (p:=⟨b,off+j*4+1,none⟩) hbb] at d1;rw [<-hb.cell (p:=⟨b,off+j*4+2,none⟩) hbb] at d2;rw [<-hb.cell (p:=⟨b,off+j*4+3,none⟩) hbb] at d3;have hat:ZbA ordL ls k=decide (ordL p l<0):=by rw [hj];exact Za6 hp (by rw [<-hj];exact hl)
   have hzr:=hb.size;have hbr:b<wr.heap.size:=by omega
   have hki:(0:Int)<=(k:Int):=by omega
   have hkj:(k:Int)<(ls.length:Int):=by omega
   have hj1:(k:Int)-1=(j:Int):=by omega
   have hj2:(0:Int)<=(j:Int):=by omega
   have hj3:(j:Int)<(ls.length:Int):=by omega
   have hj5:IntKind.i64.wrap (j:Int)=(j:Int):=ZaD _ (by omega) (by omega)
   have HORD:=hide (Zlx p l);have HAT:=hide hat;have HJ:=hide hj;clear hl hp hat hj;obtain⟨x,hx⟩:∃ x,x=ordL p l:=⟨_,rfl⟩;rw [<-hx] at HORD HAT;clear hx;unfold lkV at HORD;by_cases hx0:x<0
   ·have hx1:¬(0:Int)<=x:=by omega
    rw [decide_eq_true hx0] at HAT
    go_wp2
    go_region_held3 (fun W=>W.cell? ⟨b,off+k*4,none⟩=some (.int .i64 l.a)/\W.cell? ⟨b,off+k*4+1,none⟩=some (.int .i64 l.b)/\W.cell? ⟨b,off+k*4+2,none⟩=some (.int .i64 l.c)/\W.cell? ⟨b,off+k*4+3,none⟩=some (.int .i64 l.r)/\W.cell? ⟨b,off+j*4,none⟩=some (.int .i64 p.a)/\W.cell? ⟨b,off+j*4+1,none⟩=some (.int .i64 p.b)/\W.cell? ⟨b,off+j*4+2,none⟩=some (.int .i64 p.c)/\W.cell? ⟨b,off+j*4+3,none⟩=some (.int .i64 p.r)) (first | go_keep | (refine ⟨?_,?_,?_,?_,?_,?_,?_,?_⟩ <;> (rw [hbc.cell (by assumption)];assumption))) (first | (go_at_call 114;refine (HORD.out _).mono ?_;rintro e w2 ⟨rfl,hbc⟩))
    go_wp2
    exact⟨⟨k+1,by omega,by omega,by go_num,ZaC HNO.out HAT.out,hb.drew.trans (hbc.mono hb.size)⟩,by simp [intOf];omega⟩
   ·have hx1:(0:Int)<=x:=by omega
    rw [decide_eq_false hx0] at HAT;have hf:ascB ordL ls=false:=ZaF hlt HAT.out;have HF:=hide hf;clear hf
    go_wp2
    go_region_held3 (fun W=>W.cell? ⟨b,off+k*4,none⟩=some (.int .i64 l.a)/\W.cell? ⟨b,off+k*4+1,none⟩=some (.int .i64 l.b)/\W.cell? ⟨b,off+k*4+2,none⟩=some (.int .i64 l.c)/\W.cell? ⟨b,off+k*4+3,none⟩=some (.int .i64 l.r)/\W.cell? ⟨b,off+j*4,none⟩=some (.int .i64 p.a)/\W.cell? ⟨b,off+j*4+1,none⟩=some (.int .i64 p.b)/\W.cell? ⟨b,off+j*4+2,none⟩=some (.int .i64 p.c)/\W.cell? ⟨b,off+j*4+3,none⟩=some (.int .i64 p.r)) (first | go_keep | (refine ⟨?_,?_,?_,?_,?_,?_,?_,?_⟩ <;> (rw [hbc.cell (by assumption)];assumption))) (first | (go_at_call 114;refine (HORD.out _).mono ?_;rintro e w2 ⟨rfl,hbc⟩))
    go_wp2
    go_ret
    exact⟨Zaf HF.out,hb.drew.trans (hbc.mono hb.size)⟩
  ·have hall:ascB ordL ls=true:=ZaG fun i hi=>HNO.out i (by omega)
   have HA:=hide hall;clear hall
   go_wp2
   go_ret
   exact⟨Zaf HA.out,hb⟩
theorem ZkT (v:Value)(ls:List Th)(w:World)(hls:ls.length<=1048576)(hv:Zbf w v ls w.heap.size):
  Calls Tryz.prog 115 #[v,.func (.func 116) #[] #[]] w fun e w'=>e=.returned (.bool (ascB ordT ls))/\Below w.heap.size w w':=by
 obtain⟨a,cap,rfl⟩:=hv.shape;have HV:=hide hv;clear hv
 go_enter Tryz.func115,Tryz.ntmps115
 go_wp2
 go_loopw [5] (fun i wr=>∃ k:Nat,1<=k/\(k<=ls.length\/k=1)/\i=.int .i64 k/\(∀ j,j<k->ZbA ordT ls j=true)/\Below w.heap.size w wr) (fun i _=>ls.length+1-(intOf i).toNat)
 case atStart=>exact ⟨1,by omega,by omega,rfl,fun j hj=>by (obtain rfl:j=0:=by omega);rfl,Below.refl _ _⟩
 case round=>
  obtain⟨k,hk1,hk,rfl,hno,hb⟩:=hrel;have HNO:=hide hno;clear hno;by_cases hlt:k<ls.length
  ·obtain ⟨l,hl⟩:∃ l,ls[k]? = some l:=⟨ls[k],List.getElem?_eq_getElem hlt⟩
   obtain⟨j,hj⟩:∃ j,k=j+1:=⟨k-1,by omega⟩
   obtain⟨p,hp⟩:∃ p,ls[j]? = some p:=⟨ls[j],List.getElem?_eq_getElem (by omega)⟩
   obtain⟨b,off,cap',hve,hbb,c0,c1,c2,c3⟩:=HV.out.cells k l hl;cases hve
   obtain⟨b',off',cap2,hve2,hbb2,d0,d1,d2,d3⟩:=HV.out.cells j p hp;cases hve2
   rw [<-hb.cell (p:=⟨b,off+k*4,none⟩) hbb] at c0;rw [<-hb.cell (p:=⟨b,off+k*4+1,none⟩) hbb] at c1;rw [<-hb.cell (p:=⟨b,off+k*4+2,none⟩) hbb] at c2;rw [<-hb.cell (p:=⟨b,off+k*4+3,none⟩) hbb] at c3;rw [<-hb.cell (p:=⟨b,off+j*4,none⟩) hbb] at d0;rw [<-hb.cell (p:=⟨b,off+j*4+1,none⟩) hbb] at d1;rw [<-hb.cell (p:=⟨b,off+j*4+2,none⟩) hbb] at d2;rw [<-hb.cell (p:=⟨b,off+j*4+3,none⟩) hbb] at d3;have hat:ZbA ordT ls k=decide (ordT p l<0):=by rw [hj];exact Za6 hp (by rw [<-hj];exact hl)
   have hzr:=hb.size;have hbr:b<wr.heap.size:=by omega
   have hki:(0:Int)<=(k:Int):=by omega
   have hkj:(k:Int)<(ls.length:Int):=by omega
   have hj1:(k:Int)-1=(j:Int):=by omega
   have hj2:(0:Int)<=(j:Int):=by omega
   have hj3:(j:Int)<(ls.length:Int):=by omega
   have hj5:IntKind.i64.wrap (j:Int)=(j:Int):=ZaD _ (by omega) (by omega)
   have HORD:=hide (Zly p l);have HAT:=hide hat;have HJ:=hide hj;clear hl hp hat hj;obtain⟨x,hx⟩:∃ x,x=ordT p l:=⟨_,rfl⟩;rw [<-hx] at HORD HAT;clear hx;unfold thV at HORD;by_cases hx0:x<0
   ·have hx1:¬(0:Int)<=x:=by omega
    rw [decide_eq_true hx0] at HAT
    go_wp2
    go_region_held3 (fun W=>W.cell? ⟨b,off+k*4,none⟩=some (.int .i64 l.o)/\W.cell? ⟨b,off+k*4+1,none⟩=some (.int .i64 l.k)/\W.cell? ⟨b,off+k*4+2,none⟩=some (.int .i64 l.c)/\W.cell? ⟨b,off+k*4+3,none⟩=some (.bool l.f)/\W.cell? ⟨b,off+j*4,none⟩=some (.int .i64 p.o)/\W.cell? ⟨b,off+j*4+1,none⟩=some (.int .i64 p.k)/\W.cell? ⟨b,off+j*4+2,none⟩=some (.int .i64 p.c)/\W.cell? ⟨b,off+j*4+3,none⟩=some (.bool p.f)) (first | go_keep | (refine ⟨?_,?_,?_,?_,?_,?_,?_,?_⟩ <;> (rw [hbc.cell (by assumption)];assumption))) (first | (go_at_call 116;refine (HORD.out _).mono ?_;rintro e w2 ⟨rfl,hbc⟩))
    go_wp2
    exact⟨⟨k+1,by omega,by omega,by go_num,ZaC HNO.out HAT.out,hb.drew.trans (hbc.mono hb.size)⟩,by simp [intOf];omega⟩
   ·have hx1:(0:Int)<=x:=by omega
    rw [decide_eq_false hx0] at HAT;have hf:ascB ordT ls=false:=ZaF hlt HAT.out;have HF:=hide hf;clear hf
    go_wp2
    go_region_held3 (fun W=>W.cell? ⟨b,off+k*4,none⟩=some (.int .i64 l.o)/\W.cell? ⟨b,off+k*4+1,none⟩=some (.int .i64 l.k)/\W.cell? ⟨b,off+k*4+2,none⟩=some (.int .i64 l.c)/\W.cell? ⟨b,off+k*4+3,none⟩=some (.bool l.f)/\W.cell? ⟨b,off+j*4,none⟩=some (.int .i64 p.o)/\W.cell? ⟨b,off+j*4+1,none⟩=some (.int .i64 p.k)/\W.cell? ⟨b,off+j*4+2,none⟩=some (.int .i64 p.c)/\W.cell? ⟨b,off+j*4+3,none⟩=some (.bool p.f)) (first | go_keep | (refine ⟨?_,?_,?_,?_,?_,?_,?_,?_⟩ <;> (rw [hbc.cell (by assumption)];assumption))) (first | (go_at_call 116;refine (HORD.out _).mono ?_;rintro e w2 ⟨rfl,hbc⟩))
    go_wp2
    go_ret
    exact⟨Zaf HF.out,hb.drew.trans (hbc.mono hb.size)⟩
  ·have hall:ascB ordT ls=true:=ZaG fun i hi=>HNO.out i (by omega)
   have HA:=hide hall;clear hall
   go_wp2
   go_ret
   exact⟨Zaf HA.out,hb⟩
def ZbV (n:Int)(ls:List Lk):Bool:=decide (ls.length<=12)&&Zbl (ZaY n) ls&&ascB ordL ls
theorem Zh9 (n:Int)(v:Value)(ls:List Lk)(w:World)(hls:ls.length<=1048576)(hv:Za0 w v ls w.heap.size):
  Calls Tryz.prog 75 #[.int .i64 n,v] w fun e w'=>e=.returned (.bool (ZbV n ls))/\Below w.heap.size w w':=by
 obtain⟨a,cap,rfl⟩:=hv.shape;have HV:=hide hv;clear hv;by_cases h12:ls.length<=12
 case neg=>
  have hno:ZbV n ls=false:=by unfold ZbV;rw [decide_eq_false h12];rfl
  rw [hno];have h12':(12:Int)<(ls.length:Int):=by omega
  clear hno
  go_enter Tryz.func75,Tryz.ntmps75
  go_wp2
  go_ret
  exact⟨rfl,Below.refl _ _⟩
 have h12':¬(12:Int)<(ls.length:Int):=by omega
 have hB:ZbV n ls=(Zbl (ZaY n) ls&&ascB ordL ls):=by unfold ZbV;rw [decide_eq_true h12];rfl
 have HB:=hide hB;clear hB
 go_enter Tryz.func75,Tryz.ntmps75
 go_wp2
 go_loopw [12] (fun i wr=>∃ k:Nat,k<=ls.length/\i=.int .i64 k/\(∀ j,j<k->okAt (ZaY n) ls j=true)/\Below w.heap.size w wr) (fun i _=>ls.length-(intOf i).toNat)
 case atStart=>exact ⟨0,by omega,rfl,by omega,Below.refl _ _⟩
 case round=>
  obtain⟨k,hk,rfl,hno,hb⟩:=hrel;have HNO:=hide hno;clear hno;by_cases hlt:k<ls.length
  ·obtain ⟨l,hl⟩:∃ l,ls[k]? = some l:=⟨ls[k],List.getElem?_eq_getElem hlt⟩
   obtain⟨b,off,cap',hve,hbb,c0,c1,c2,c3⟩:=HV.out.cells k l hl;cases hve
   rw [<-hb.cell (p:=⟨b,off+k*4,none⟩) hbb] at c0;rw [<-hb.cell (p:=⟨b,off+k*4+1,none⟩) hbb] at c1;rw [<-hb.cell (p:=⟨b,off+k*4+2,none⟩) hbb] at c2;rw [<-hb.cell (p:=⟨b,off+k*4+3,none⟩) hbb] at c3;have HAT:=hide (Zbh (ok:=ZaY n) hl);have HOK:=hide (Zh6 n l);clear hl;obtain⟨q,hq⟩:∃ q,q=ZaY n l:=⟨_,rfl⟩;rw [<-hq] at HAT HOK;unfold lkV at HOK;clear hq;have hzr:=hb.size
   go_wp2_with fail
   refine (HOK.out _).mono ?_
   rintro e w2 ⟨rfl,hbc⟩;have B2:Below w.heap.size w w2:=(hb.alloc hb.size _).trans (hbc.mono (by simp;omega))
   cases q
   ·have hf:ZbV n ls=false:=by rw [HB.out];unfold Zbl;rw [ZaF hlt HAT.out];rfl
    have HF:=hide hf;clear hf
    go_wp2
    go_ret
    exact⟨Zaf HF.out,B2⟩
   ·go_wp2
    exact⟨⟨k+1,by omega,by go_num,ZaC HNO.out HAT.out,B2⟩,by simp [intOf];omega⟩
  ·have hall:Zbl (ZaY n) ls=true:=ZaG fun i hi=>HNO.out i (by omega)
   have hF:ZbV n ls=ascB ordL ls:=by rw [HB.out,hall];rfl
   have HF:=hide hF;clear hF hall;have HVR:=hide (HV.out.then hb)
   go_wp2_with fail
   refine (ZkS _ ls _ hls HVR.out).mono ?_
   rintro e w2 ⟨rfl,hbc⟩
   go_wp2
   go_ret
   exact⟨Zaf HF.out,hb.trans (hbc.mono hb.size)⟩
def Zcw (n:Int)(t:Th):Bool:=inB t.k 1 9&&inB t.o 1 n&&inB t.c 1 1000
def Zbn (n:Int)(ls:List Th):Bool:=decide (ls.length<=4)&&Zbl (Zcw n) ls&&ascB ordT ls
theorem ZhP (n:Int)(v:Value)(ls:List Th)(w:World)(hls:ls.length<=1048576)(hv:Zbf w v ls w.heap.size):
  Calls Tryz.prog 76 #[.int .i64 n,v] w fun e w'=>e=.returned (.bool (Zbn n ls))/\Below w.heap.size w w':=by
 obtain⟨a,cap,rfl⟩:=hv.shape;have HV:=hide hv;clear hv;by_cases h12:ls.length<=4
 case neg=>
  have hno:Zbn n ls=false:=by unfold Zbn;rw [decide_eq_false h12];rfl
  rw [hno];have h12':(4:Int)<(ls.length:Int):=by omega
  clear hno
  go_enter Tryz.func76,Tryz.ntmps76
  go_wp2
  go_ret
  exact⟨rfl,Below.refl _ _⟩
 have h12':¬(4:Int)<(ls.length:Int):=by omega
 have hB:Zbn n ls=(Zbl (Zcw n) ls&&ascB ordT ls):=by unfold Zbn;rw [decide_eq_true h12];rfl
 have HB:=hide hB;clear hB
 go_enter Tryz.func76,Tryz.ntmps76
 go_wp2
 go_loopw [12] (fun i wr=>∃ k:Nat,k<=ls.length/\i=.int .i64 k/\(∀ j,j<k->okAt (Zcw n) ls j=true)/\Below w.heap.size w wr) (fun i _=>ls.length-(intOf i).toNat)
 case atStart=>exact ⟨0,by omega,rfl,by omega,Below.refl _ _⟩
 case round=>
  obtain⟨k,hk,rfl,hno,hb⟩:=hrel;have HNO:=hide hno;clear hno;by_cases hlt:k<ls.length
  ·obtain ⟨l,hl⟩:∃ l,ls[k]? = some l:=⟨ls[k],List.getElem?_eq_getElem hlt⟩
   obtain⟨b,off,cap',hve,hbb,c0,c1,c2,c3⟩:=HV.out.cells k l hl;cases hve
   rw [<-hb.cell (p:=⟨b,off+k*4,none⟩) hbb] at c0;rw [<-hb.cell (p:=⟨b,off+k*4+1,none⟩) hbb] at c1;rw [<-hb.cell (p:=⟨b,off+k*4+2,none⟩) hbb] at c2;rw [<-hb.cell (p:=⟨b,off+k*4+3,none⟩) hbb] at c3;have HAT:=hide (Zbh (ok:=Zcw n) hl);obtain⟨q1,hq1⟩:∃ q,q=inB l.k 1 9:=⟨_,rfl⟩;obtain⟨q2,hq2⟩:∃ q,q=inB l.o 1 n:=⟨_,rfl⟩;obtain⟨q3,hq3⟩:∃ q,q=inB l.c 1 1000:=⟨_,rfl⟩;have hok:Zcw n l=(q1&&q2&&q3):=by unfold Zcw;rw [hq1,hq2,hq3]
   have H1:=hide (ZaZ l.k 1 9);have H2:=hide (ZaZ l.o 1 n);have H3:=hide (ZaZ l.c 1 1000);rw [<-hq1] at H1;rw [<-hq2] at H2;rw [<-hq3] at H3;rw [hok] at HAT;clear hl hq1 hq2 hq3 hok;have hzr:=hb.size;have B2:Below w.heap.size w (wr.alloc (.cells #[.int .i64 l.o,.int .i64 l.k,.int .i64 l.c,.bool l.f] 131)):=hb.alloc hb.size _;cases q1
   ·have hf:Zbn n ls=false:=by rw [HB.out];unfold Zbl;rw [ZaF hlt HAT.out];rfl
    have HF:=hide hf;clear hf
    go_wp2_with fail
    refine (H1.out _).mono ?_
    rintro e w2 ⟨rfl,rfl⟩
    go_wp2
    go_ret
    exact⟨Zaf HF.out,B2⟩
   cases q2
   ·have hf:Zbn n ls=false:=by rw [HB.out];unfold Zbl;rw [ZaF hlt HAT.out];rfl
    have HF:=hide hf;clear hf
    go_wp2_with fail
    refine (H1.out _).mono ?_
    rintro e w2 ⟨rfl,rfl⟩
    go_wp2_with fail
    refine (H2.out _).mono ?_
    rintro e w2 ⟨rfl,rfl⟩
    go_wp2
    go_ret
    exact⟨Zaf HF.out,B2⟩
   cases q3
   ·have hf:Zbn n ls=false:=by rw [HB.out];unfold Zbl;rw [ZaF hlt HAT.out];rfl
    have HF:=hide hf;clear hf
    go_wp2_with fail
    refine (H1.out _).mono ?_
    rintro e w2 ⟨rfl,rfl⟩
    go_wp2_with fail
    refine (H2.out _).mono ?_
    rintro e w2 ⟨rfl,rfl⟩
    go_wp2_with fail
    refine (H3.out _).mono ?_
    rintro e w2 ⟨rfl,rfl⟩
    go_wp2
    go_ret
    exact⟨Zaf HF.out,B2⟩
   ·go_wp2_with fail
    refine (H1.out _).mono ?_
    rintro e w2 ⟨rfl,rfl⟩
    go_wp2_with fail
    refine (H2.out _).mono ?_
    rintro e w2 ⟨rfl,rfl⟩
    go_wp2_with fail
    refine (H3.out _).mono ?_
    rintro e w2 ⟨rfl,rfl⟩
    go_wp2
    exact⟨⟨k+1,by omega,by go_num,ZaC HNO.out HAT.out,B2⟩,by simp [intOf];omega⟩
  ·have hall:Zbl (Zcw n) ls=true:=ZaG fun i hi=>HNO.out i (by omega)
   have hF:Zbn n ls=ascB ordT ls:=by rw [HB.out,hall];rfl
   have HF:=hide hF;clear hF hall;have HVR:=hide (HV.out.then hb)
   go_wp2_with fail
   refine (ZkT _ ls _ hls HVR.out).mono ?_
   rintro e w2 ⟨rfl,hbc⟩
   go_wp2
   go_ret
   exact⟨Zaf HF.out,hb.trans (hbc.mono hb.size)⟩
def ZaV (x:NetD):Bool:=inB x.n 1 6&&ZbV x.n x.ls&&Zbn x.n x.ts
theorem Zjh (v:Value)(x:NetD)(w:World)(hl:x.ls.length<=1048576)(ht:x.ts.length<=1048576)(hv:Zi7 w v x w.heap.size):
  Calls Tryz.prog 36 #[v] w fun e w'=>e=.returned (.bool (ZaV x))/\Below w.heap.size w w':=by
 obtain⟨n,ls,ts⟩:=x;obtain⟨v1,v2,rfl,h1,h2⟩:=hv;simp only [] at h1 h2 hl ht |-
 obtain⟨a1,c1,rfl⟩:=h1.shape;obtain⟨a2,c2,rfl⟩:=h2.shape;obtain⟨q1,hq1⟩:∃ q,q=inB n 1 6:=⟨_,rfl⟩;obtain⟨q2,hq2⟩:∃ q,q=ZbV n ls:=⟨_,rfl⟩;obtain⟨q3,hq3⟩:∃ q,q=Zbn n ts:=⟨_,rfl⟩;have hok:ZaV ⟨n,ls,ts⟩=(q1&&q2&&q3):=by unfold ZaV;rw [hq1,hq2,hq3]
 rw [hok];have HIN:=hide (ZaZ n 1 6);rw [<-hq1] at HIN;have HL:=hide (fun W (h:Below w.heap.size w W)=>Zh9 n _ ls W hl (h1.then h))
 have HT:=hide (fun W (h:Below w.heap.size w W)=>ZhP n _ ts W ht (h2.then h))
 rw [<-hq2] at HL;rw [<-hq3] at HT;clear hq1 hq2 hq3 hok h1 h2;have B0:Below w.heap.size w (w.alloc (.cells #[.int .i64 n,.slice a1 ls.length c1,.slice a2 ts.length c2] 27)):=(Below.refl _ _).alloc (Nat.le_refl _) _;have hnew:=heap_alloc_new w (.cells #[.int .i64 n,.slice a1 ls.length c1,.slice a2 ts.length c2] 27);have NEW:=hide hnew;clear hnew;cases q1
 ·go_enter Tryz.func36,Tryz.ntmps36
  go_wp2_with fail
  refine (HIN.out _).mono ?_
  rintro e w1 ⟨rfl,rfl⟩
  go_wp2
  go_ret
  exact⟨by simp,B0⟩
 cases q2
 ·go_enter Tryz.func36,Tryz.ntmps36
  go_wp2_with fail
  refine (HIN.out _).mono ?_
  rintro e w1 ⟨rfl,rfl⟩
  go_wp2_with fail
  refine (HL.out _ B0).mono ?_
  rintro e w1 ⟨rfl,b1⟩
  go_wp2
  go_ret
  exact⟨by simp,B0.trans (b1.mono B0.size)⟩
 ·go_enter Tryz.func36,Tryz.ntmps36
  go_wp2_with fail
  refine (HIN.out _).mono ?_
  rintro e w1 ⟨rfl,rfl⟩
  go_wp2_with fail
  refine (HL.out _ B0).mono ?_
  rintro e w1 ⟨rfl,b1⟩;have g1:w1.heap[w.heap.size]? = some (.cells #[.int .i64 n,.slice a1 ls.length c1,.slice a2 ts.length c2] 27):=by rw [b1.block _ (by simp)];exact NEW.out
  have B1:Below w.heap.size w w1:=B0.trans (b1.mono B0.size);have s0:=Zaa g1 0;have s2:=Zaa g1 2;simp at s0 s2
  clear g1 b1 B0
  go_wp2_with fail
  refine (HT.out _ B1).mono ?_
  rintro e w2 ⟨rfl,b2⟩
  go_wp2
  go_ret
  exact⟨by simp,B1.trans (b2.mono B1.size)⟩
end Go.Proofs.YtcimbiinljcifaaGreat
namespace Go.Proofs.YtcimbiinljcifaaGreat
open Go.RowKit

theorem putS:(∀ (a:Act) (v:Value),a.put none v=a)/\(∀ (a:Act) (t:Nat) (v:Value),a.put (some t) v = { a with tmps:=a.tmps.setIfInBounds t v })/\(∀ (l:List Value) (i:Nat) (v:Value),l.toArray.setIfInBounds i v=(l.set i v).toArray)/\(∀ (x v:Value) (l:List Value),(x::l).set 0 v=v::l)/\(∀ (x v:Value) (l:List Value) (n:Nat),(x::l).set (n+1) v=x::l.set n v):=
 ⟨fun _ _=>rfl,fun _ _ _=>rfl,fun _ _ _=>by simp,fun _ _ _=>rfl,fun _ _ _ _=>rfl⟩

theorem getS:(∀ (l:List Oper) (i:Nat),l.toArray[i]? = l[i]?)/\(∀ (x:Oper) (l:List Oper),(x::l)[0]? = some x)/\(∀ (x:Oper) (l:List Oper) (n:Nat),(x::l)[n+1]? = l[n]?):=
 ⟨fun _ _=>by simp,fun _ _=>rfl,fun _ _ _=>rfl⟩

def ZdD (ops:Array Oper)(listed:Array Bool)(i:Nat):Bool:=Region.noSelect ops&&Region.free .any ops listed i&&(Region.ready .any ops listed).contains i

theorem Zd2 {ops:Array Oper}{listed:Array Bool}{i:Nat}(h:ZdD ops listed i=true):Region.noSelect ops=true/\Region.free .any ops listed i=true/\(Region.ready .any ops listed).contains i=true:=by
 unfold ZdD at h;simp only [Bool.and_eq_true] at h
 exact⟨h.1.1,h.1.2,h.2⟩

section
variable {P:Program} {ops:Array Oper} {Q:Exit->Act->World->Prop} {S:World->Prop} {fuel:Nat} {listed:Array Bool} {a:Act} {w:World}

/-- the beginning: the region's operations behind a letter -/
theorem Zai {id:Nat}(hm:P.follows .mixedOrders=true)(n:Nat)(hn:ops.size=n)(hS:S w.drew)(h:∀ ops',Hid (ops'=ops)->S w.drew->wpAnyH P .any ops' Q S n (Array.replicate n false) a w.drew):(Code.region id ops true).wp P Q a w:=by
 refine wp_region_held_drew hm hS (fun hs=>?_)
 rw [hn];exact h ops rfl hs

/-- an operation that isn't wanted -/
theorem ZkD (i:Nat)(d:Tmp)(hi:(ops[i]?).map Oper.dst=some (some d))(ht:ZdD ops listed i=true)(hw:(ops[i]?).map (fun o=>Region.wanted o (yielded ops a.tmps))=some false)
  (hQ:∀ c a w,Q (.panic c) (a.put (some d) undef) w->Q (.panic c) a w) (hS:S w) (h:wpAnyH P .any ops Q S fuel (listed.setIfInBounds i true) (a.put (some d) undef) w):wpAnyH P .any ops Q S (fuel+1) listed a w:=by
 obtain⟨h1,h2,h3⟩:=Zd2 ht;cases ho:ops[i]? with
 | none=>rw [ho] at hi;cases hi
 | some oi=>
  rw [ho] at hi hw;simp only [Option.map_some,Option.some.injEq] at hi hw
  refine wpAnyH_take ho h1 h2 h3 (v:=undef) ?_ (Or.inr ⟨hw,rfl⟩) hS ?_
  ·rw [hi];exact hQ
  ·rw [hi];exact h

/-- an operation that yields v in every world that meets S -/
theorem Zaz (i:Nat){oi:Oper}{v:Value}(hi:ops[i]? = some oi)(ht:ZdD ops listed i=true)(hw:Region.wanted oi (yielded ops a.tmps)=true)(hy:∀ w,S w->(execOp a.eval oi).run P w=.ok (.value v) w)
  (hQ:∀ c a w,Q (.panic c) (a.put oi.dst v) w->Q (.panic c) a w) (hS:S w) (h:wpAnyH P .any ops Q S fuel (listed.setIfInBounds i true) (a.put oi.dst v) w):wpAnyH P .any ops Q S (fuel+1) listed a w:=by
 obtain⟨h1,h2,h3⟩:=Zd2 ht;exact wpAnyH_take hi h1 h2 h3 hQ (Or.inl ⟨hw,hy⟩) hS h

/-- a call that alone may come up -/
theorem Zap (i:Nat){oi:Oper}(hi:ops[i]? = some oi)(hr:Region.ready .any ops listed=[i])(hw:Region.wanted oi (yielded ops a.tmps)=true)
  (h:∀ K':Act->World->Prop,Shut (∀ a w,S w->(S w->wpAnyH P .any ops Q S fuel (listed.setIfInBounds i true) a w)->K' a w)->Oper.wp P oi a w K' Q):wpAnyH P .any ops Q S (fuel+1) listed a w:=by
 refine wpAnyH_ready (rs:=[i]) hr (by simp) ?_
 refine AllReadyH.cons hi (fun K hK=>?_) AllReadyH.nil
 rw [if_pos hw];exact h K hK
theorem Zad (i:Nat)(d:Tmp) (hb:((ops[i]?).map Oper.dst==some (some d)&&(ZdD ops listed i&&(ops[i]?).map (fun o=>Region.wanted o (yielded ops a.tmps))==some false))=true)
  (hQ:∀ c a w,Q (.panic c) (a.put (some d) undef) w->Q (.panic c) a w) (hS:S w) (h:wpAnyH P .any ops Q S fuel (listed.setIfInBounds i true) (a.put (some d) undef) w):wpAnyH P .any ops Q S (fuel+1) listed a w:=by
 simp only [Bool.and_eq_true,beq_iff_eq] at hb
 exact ZkD i d hb.1 hb.2.1 hb.2.2 hQ hS h

theorem Zay (i:Nat)(oi:Oper)(v:Value)(hi:ops[i]? = some oi) (hb:(ZdD ops listed i&&(ops[i]?).map (fun o=>Region.wanted o (yielded ops a.tmps))==some true)=true) (hy:∀ w,S w->(execOp a.eval oi).run P w=.ok (.value v) w)
  (hQ:∀ c a w,Q (.panic c) (a.put oi.dst v) w->Q (.panic c) a w) (hS:S w) (h:wpAnyH P .any ops Q S fuel (listed.setIfInBounds i true) (a.put oi.dst v) w):wpAnyH P .any ops Q S (fuel+1) listed a w:=by
 simp only [Bool.and_eq_true,beq_iff_eq] at hb
 have h2:=hb.2;rw [hi] at h2;simp only [Option.map_some,Option.some.injEq] at h2
 exact Zaz i hi hb.1 h2 hy hQ hS h

theorem Zao (n:Nat)(oi:Oper)(v:Value)(hi:ops[n-(fuel+1)]? = some oi) (hb:(ZdD ops listed (n-(fuel+1))&&(ops[n-(fuel+1)]?).map (fun o=>Region.wanted o (yielded ops a.tmps))==some true)=true) (hy:∀ w,S w->(execOp a.eval oi).run P w=.ok (.value v) w)
  (hQ:∀ c a w,Q (.panic c) (a.put oi.dst v) w->Q (.panic c) a w) (hS:S w) (h:wpAnyH P .any ops Q S fuel (listed.setIfInBounds (n-(fuel+1)) true) (a.put oi.dst v) w):wpAnyH P .any ops Q S (fuel+1) listed a w:=
 Zay (n-(fuel+1)) oi v hi hb hy hQ hS h

end
end Go.Proofs.YtcimbiinljcifaaGreat
