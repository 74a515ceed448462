/-
  ConcatK HeapMath HeapK Meth
-/
import Derived.Test.YtgdgkgmjpnbbcaaGreatShelfG
import Derived.Test.YtgdgkgmjpnbbcaaGreatOn26
import Derived.Test.YtgdgkgmjpnbbcaaGreatOn20
import Derived.Test.YtgdgkgmjpnbbcaaGreatOn2
import Derived.Test.YtgdgkgmjpnbbcaaGreatOn1
import Derived.Test.YtgdgkgmjpnbbcaaGreatOn9
import Derived.Handy
namespace Go.Proofs.YtgdgkgmjpnbbcaaGreat
open Go.RowKit
set_option linter.unusedSimpArgs false
set_option linter.unusedVariables false
set_option maxRecDepth 100000
set_option maxHeartbeats 8000000
def sumL {α:Type}(ls:List (Value × List α)):Nat:=(ls.map (fun x=>x.2.length)).sum
def Zcx {α:Type}(ls:List (Value × List α)):List α:=(ls.map (fun x=>x.2)).flatten
theorem ZiU {α:Type}(ls:List (Value × List α)):(Zcx ls).length=sumL ls:=by simp [Zcx,sumL,List.length_flatten,Function.comp_def]
theorem Zfj {α:Type}{ls:List (Value × List α)}{k:Nat}{x:Value × List α}(h:ls[k]? = some x):sumL (ls.take (k+1))=sumL (ls.take k)+x.2.length:=by
 obtain⟨hk,e⟩:=List.getElem?_eq_some_iff.1 h;unfold sumL;rw [List.take_succ_eq_append_getElem hk,e];simp
theorem Zhk {α:Type}{ls:List (Value × List α)}{k:Nat}{x:Value × List α}(h:ls[k]? = some x):Zcx (ls.take (k+1))=Zcx (ls.take k)++x.2:=by
 obtain⟨hk,e⟩:=List.getElem?_eq_some_iff.1 h;unfold Zcx;rw [List.take_succ_eq_append_getElem hk,e];simp
theorem Zd2 {α:Type}(ls:List (Value × List α))(k:Nat):sumL (ls.take k)<=sumL ls:=by
 have:ls=ls.take k++ls.drop k:=(List.take_append_drop k ls).symm;have h2:sumL ls=sumL (ls.take k)+sumL (ls.drop k):=by
  conv=>lhs;rw [this]
  unfold sumL;rw [List.map_append,List.sum_append]
 omega
theorem Zma (n:Nat)(w:World)(hn:n<=1000000):
  Calls Tryz.prog 71 #[.slice none 0 0,.int .i64 (n:Int)] w fun e w'=>∃ x,e=.returned x/\w'.ownsRow w.heap.size 48 3 x 0 []/\Below w.heap.size w w':=by
 by_cases h0:n=0
 ·subst h0
  have h:=Any8.slices_Grow_room Tryz.growW none 0 0 0 w (Nat.le_refl _) (by omega) (by omega) (by omega)
  change Calls Tryz.prog 71 _ _ _ at h
  exact h.mono fun e w' ⟨h1,h2⟩=>⟨_,h1,by rw [h2];exact World.ownsRow_nil _ _ _ _,by rw [h2];exact Below.refl _ _⟩
 ·have hi:=Tryz.infoWay
  cases hf:Tryz.prog.info? 48 with
  | none=>rw [hf] at hi;cases hi
  | some i0=>
   rw [hf] at hi;simp only [Option.map_some,Option.some.injEq,Prod.mk.injEq] at hi
   obtain⟨hz,hs,hb⟩:=hi;have h:=Any8.slices_Grow_grow Tryz.growW i0 (.agg (wayC Zbg (.slice none 0 0))) hf hz (by rw [hs];omega) none 0 0 n [] w (by omega) (by omega) (by rw [hb];omega) (by omega) (by simp) (fun _=>rfl) (fun a ha=>by cases ha)
   change Calls Tryz.prog 71 _ _ _ at h
   refine h.mono fun e w' ⟨h1,h2⟩=>⟨_,h1,?_,?_⟩
   ·rw [h2]
    have hg:=grownCap_ge w (0+n) 0 48;have hm:=grownCap_le_maxLen w (0+n) 0 48 (by unfold maxLen;omega)
    exact World.ownsRow_made (base:=w.heap.size) (e:=48) (size:=3) w.drew _ _ (Nat.le_refl _) hm (by
     rw [Array.size_append,Array.size_append,size_zeroCells,size_zeroCells];rw [show (Value.cells (.agg (wayC Zbg (.slice none 0 0)))).size=3 from rfl]
     simp only [List.size_toArray,List.length_nil]
     change 0+(0+n-0)*3+(grownCap w (0+n) 0 48-(0+n))*3=grownCap w (0+n) 0 48*3
     omega)
   ·rw [h2]
    exact (Below.refl w.heap.size w).drew.alloc (Nat.le_refl _) _
theorem ZjA (ls:List (Value × List WP))(b:Nat)(w:World)(hb:∀ j x,ls[j]? = some x->w.cell? ⟨b,j,none⟩=some x.1)(hrows:∀ x∈ls,∃ base,w.ownsRow base 48 3 x.1 x.2.length (flat encW x.2))(hone:∀ x∈ls,∀ p∈x.2,∀ u∈encW p,u.oneCell'=true)(hn:sumL ls<=1000000)(hbl:b<w.heap.size)(hl:ls.length<=10):
  Calls Tryz.prog 30 #[.slice (some ⟨b,0,none⟩) ls.length ls.length] w fun e w'=>∃ x,e=.returned x/\w'.ownsRow w.heap.size 48 3 x (Zcx ls).length (flat encW (Zcx ls))/\Below w.heap.size w w':=by
 have HC:=hide hb;have HR:=hide hrows;have HO:=hide hone;have HG:=hide (fun W=>Zma (sumL ls) W hn)
 clear hb hrows hone
 go_enter Tryz.func30,Tryz.ntmps30
 go_wp2
 go_loopw [11,3] (fun i s wr=>∃ (k:Nat),k<=ls.length/\i=.int .i64 (k:Int)/\s=.int .i64 ((sumL (ls.take k):Nat):Int)/\Below w.heap.size w wr) (fun i _ _=>ls.length-(intOf i).toNat)
 case atStart=>exact ⟨0,by omega,rfl,rfl,Below.refl _ _⟩
 case round=>
  obtain⟨k,hk,rfl,rfl,hnx⟩:=hrel;have hle:=Zd2 ls k;by_cases hlt:k<ls.length
  ·obtain ⟨x,hx⟩:∃ x,ls[k]? = some x:=⟨ls[k],List.getElem?_eq_getElem hlt⟩
   have c0:=HC.out k x hx;rw [<-hnx.cell (p:=⟨b,k,none⟩) hbl] at c0;obtain⟨base,hrow⟩:=HR.out x (List.mem_of_getElem? hx);obtain⟨xa,xc,hxe⟩:=Zac hrow;rw [hxe] at c0;have hst:=Zfj hx;have hle2:=Zd2 ls (k+1);have hki:(0:Int)<=(k:Int):=by omega
   have hkj:(k:Int)<(ls.length:Int):=by omega
   have hneg:¬((sumL (ls.take k):Int)+(x.2.length:Int)<0):=by omega
   have hb2:(sumL (ls.take k):Int)+(x.2.length:Int)<=1000000:=by omega
   have HST:=hide hst;have HN:=hide hnx;clear hx hrow hxe hnx hst hle hle2
   go_wp2
   go_roundw
   case rel=>exact ⟨k+1,by omega,by go_num,by rw [HST.out];simp,HN.out⟩
   case measure=>simp [intOf];omega
  ·have hkn:¬(k:Int)<(ls.length:Int):=by omega
   have hke:ls.take k=ls:=List.take_of_length_le (by omega)
   rw [hke];have HN:=hide hnx;clear hke hle hnx
   go_wp2_with fail
   refine (HG.out _).mono ?_
   rintro e w1 ⟨x0,rfl,ho1,b1⟩;obtain⟨xa,xc,rfl⟩:=Zac ho1;have hb1:=b1.size;have hws:=HN.out.size;have HB1:=hide (HN.out.trans (b1.mono hws));have HO1:=hide (Zah ho1 hws);clear ho1 b1 HN HG
   rename World=>wq
   go_wp2
   go_loopw [27,6] (fun i o wr=>∃ (k:Nat) (x:Value),k<=ls.length/\i=.int .i64 (k:Int)/\o=x/\wr.ownsRow w.heap.size 48 3 x (Zcx (ls.take k)).length (flat encW (Zcx (ls.take k)))/\Below w.heap.size w wr) (fun i _ _=>ls.length-(intOf i).toNat)
   case atStart=>exact ⟨0,_,by omega,rfl,rfl,HO1.out,HB1.out⟩
   case round=>
    obtain⟨j,y,hj,rfl,rfl,hown,hnx⟩:=hrel;clear HO1 HB1;obtain⟨ya,yc,rfl⟩:=Zac hown;have hle:=Zd2 ls j;have hsz:=hnx.size;by_cases hlt:j<ls.length
    ·obtain ⟨x,hx⟩:∃ x,ls[j]? = some x:=⟨ls[j],List.getElem?_eq_getElem hlt⟩
     have c0:=HC.out j x hx;rw [<-hnx.cell (p:=⟨b,j,none⟩) hbl] at c0;obtain⟨base,hrow⟩:=HR.out x (List.mem_of_getElem? hx);have hrow2:=Zaf hrow hnx (Nat.le_refl _);obtain⟨za,zc,hxe⟩:=Zac hrow;rw [hxe] at c0 hrow2;have hst:=Zfj hx;have hle2:=Zd2 ls (j+1);have hjt:=Zhk hx;have hjl:=ZiU (ls.take j);have hki:(0:Int)<=(j:Int):=by omega
     have hkj:(j:Int)<(ls.length:Int):=by omega
     have HX:=hide hrow2;have HW:=hide hown;have HN:=hide hnx;have HJT:=hide hjt;have HX1:=hide (HO.out x (List.mem_of_getElem? hx));have hbd:(Zcx (ls.take j)).length+x.2.length<=1000000000:=by omega
     clear hx hrow hrow2 hxe hnx hown hst hjt hle hle2 hjl
     go_wp2_with (first
      | (at_builtin;refine Zdz (fun l=>ZaX Zbd l) (by omega) (by omega) _ rfl _ _ 41 rfl w.heap.size 48 Tryz.underlying41 (.agg (wayC Zbg (.slice none 0 0))) rfl Tryz.infoWay _ (Zcx (ls.take j)) rfl HW.out base _ x.2 HX1.out rfl HX.out (by omega) (by omega) ?_))
     intro v' w4 hown' hgrow;have N1:=hide (show w4.ownsRow w.heap.size 48 3 v' (Zcx (ls.take (j+1))).length (flat encW (Zcx (ls.take (j+1)))) by rw [HJT.out,List.length_append];exact hown')
     have N2:=hide (HN.out.grown hgrow (by omega) (fun k hk=>(HW.out.lt k hk).1))
     obtain⟨va,vc,rfl⟩:=Zac hown';clear hown' hgrow HX HW HN HJT HX1
     go_wp2
     go_roundw
     case rel=>exact ⟨j+1,_,by omega,by go_num,rfl,N1.out,N2.out⟩
     case measure=>simp [intOf];omega
    ·have hkn2:¬(j:Int)<(ls.length:Int):=by omega
     have hke:ls.take j=ls:=List.take_of_length_le (by omega)
     rw [hke] at hown |-;have HW:=hide hown;have HN:=hide hnx;clear hown hnx hke hle
     go_wp2
     go_ret
     exact⟨_,rfl,HW.out,HN.out⟩
theorem Zl9 (n:Nat)(w:World)(hn:n<=1000000):
  Calls Tryz.prog 72 #[.slice none 0 0,.int .i64 (n:Int)] w fun e w'=>∃ x,e=.returned x/\w'.ownsRow w.heap.size 44 6 x 0 []/\Below w.heap.size w w':=by
 by_cases h0:n=0
 ·subst h0
  have h:=Any8.slices_Grow_room Tryz.growQ none 0 0 0 w (Nat.le_refl _) (by omega) (by omega) (by omega)
  change Calls Tryz.prog 72 _ _ _ at h
  exact h.mono fun e w' ⟨h1,h2⟩=>⟨_,h1,by rw [h2];exact World.ownsRow_nil _ _ _ _,by rw [h2];exact Below.refl _ _⟩
 ·have hi:=Tryz.infoRoute
  cases hf:Tryz.prog.info? 44 with
  | none=>rw [hf] at hi;cases hi
  | some i0=>
   rw [hf] at hi;simp only [Option.map_some,Option.some.injEq,Prod.mk.injEq] at hi
   obtain⟨hz,hs,hb⟩:=hi;have h:=Any8.slices_Grow_grow Tryz.growQ i0 (.agg (rtC ZbB (.slice none 0 0))) hf hz (by rw [hs];omega) none 0 0 n [] w (by omega) (by omega) (by rw [hb];omega) (by omega) (by simp) (fun _=>rfl) (fun a ha=>by cases ha)
   change Calls Tryz.prog 72 _ _ _ at h
   refine h.mono fun e w' ⟨h1,h2⟩=>⟨_,h1,?_,?_⟩
   ·rw [h2]
    have hg:=grownCap_ge w (0+n) 0 44;have hm:=grownCap_le_maxLen w (0+n) 0 44 (by unfold maxLen;omega)
    exact World.ownsRow_made (base:=w.heap.size) (e:=44) (size:=6) w.drew _ _ (Nat.le_refl _) hm (by
     rw [Array.size_append,Array.size_append,size_zeroCells,size_zeroCells];rw [show (Value.cells (.agg (rtC ZbB (.slice none 0 0)))).size=6 from rfl]
     simp only [List.size_toArray,List.length_nil]
     change 0+(0+n-0)*6+(grownCap w (0+n) 0 44-(0+n))*6=grownCap w (0+n) 0 44*6
     omega)
   ·rw [h2]
    exact (Below.refl w.heap.size w).drew.alloc (Nat.le_refl _) _
theorem Zjz (ls:List (Value × List QP))(b:Nat)(w:World)(hb:∀ j x,ls[j]? = some x->w.cell? ⟨b,j,none⟩=some x.1)(hrows:∀ x∈ls,∃ base,w.ownsRow base 44 6 x.1 x.2.length (flat encQ x.2))(hone:∀ x∈ls,∀ p∈x.2,∀ u∈encQ p,u.oneCell'=true)(hn:sumL ls<=1000000)(hbl:b<w.heap.size)(hl:ls.length<=10):
  Calls Tryz.prog 31 #[.slice (some ⟨b,0,none⟩) ls.length ls.length] w fun e w'=>∃ x,e=.returned x/\w'.ownsRow w.heap.size 44 6 x (Zcx ls).length (flat encQ (Zcx ls))/\Below w.heap.size w w':=by
 have HC:=hide hb;have HR:=hide hrows;have HO:=hide hone;have HG:=hide (fun W=>Zl9 (sumL ls) W hn)
 clear hb hrows hone
 go_enter Tryz.func31,Tryz.ntmps31
 go_wp2
 go_loopw [11,3] (fun i s wr=>∃ (k:Nat),k<=ls.length/\i=.int .i64 (k:Int)/\s=.int .i64 ((sumL (ls.take k):Nat):Int)/\Below w.heap.size w wr) (fun i _ _=>ls.length-(intOf i).toNat)
 case atStart=>exact ⟨0,by omega,rfl,rfl,Below.refl _ _⟩
 case round=>
  obtain⟨k,hk,rfl,rfl,hnx⟩:=hrel;have hle:=Zd2 ls k;by_cases hlt:k<ls.length
  ·obtain ⟨x,hx⟩:∃ x,ls[k]? = some x:=⟨ls[k],List.getElem?_eq_getElem hlt⟩
   have c0:=HC.out k x hx;rw [<-hnx.cell (p:=⟨b,k,none⟩) hbl] at c0;obtain⟨base,hrow⟩:=HR.out x (List.mem_of_getElem? hx);obtain⟨xa,xc,hxe⟩:=Zac hrow;rw [hxe] at c0;have hst:=Zfj hx;have hle2:=Zd2 ls (k+1);have hki:(0:Int)<=(k:Int):=by omega
   have hkj:(k:Int)<(ls.length:Int):=by omega
   have hneg:¬((sumL (ls.take k):Int)+(x.2.length:Int)<0):=by omega
   have hb2:(sumL (ls.take k):Int)+(x.2.length:Int)<=1000000:=by omega
   have HST:=hide hst;have HN:=hide hnx;clear hx hrow hxe hnx hst hle hle2
   go_wp2
   go_roundw
   case rel=>exact ⟨k+1,by omega,by go_num,by rw [HST.out];simp,HN.out⟩
   case measure=>simp [intOf];omega
  ·have hkn:¬(k:Int)<(ls.length:Int):=by omega
   have hke:ls.take k=ls:=List.take_of_length_le (by omega)
   rw [hke];have HN:=hide hnx;clear hke hle hnx
   go_wp2_with fail
   refine (HG.out _).mono ?_
   rintro e w1 ⟨x0,rfl,ho1,b1⟩;obtain⟨xa,xc,rfl⟩:=Zac ho1;have hb1:=b1.size;have hws:=HN.out.size;have HB1:=hide (HN.out.trans (b1.mono hws));have HO1:=hide (Zah ho1 hws);clear ho1 b1 HN HG
   rename World=>wq
   go_wp2
   go_loopw [27,6] (fun i o wr=>∃ (k:Nat) (x:Value),k<=ls.length/\i=.int .i64 (k:Int)/\o=x/\wr.ownsRow w.heap.size 44 6 x (Zcx (ls.take k)).length (flat encQ (Zcx (ls.take k)))/\Below w.heap.size w wr) (fun i _ _=>ls.length-(intOf i).toNat)
   case atStart=>exact ⟨0,_,by omega,rfl,rfl,HO1.out,HB1.out⟩
   case round=>
    obtain⟨j,y,hj,rfl,rfl,hown,hnx⟩:=hrel;clear HO1 HB1;obtain⟨ya,yc,rfl⟩:=Zac hown;have hle:=Zd2 ls j;have hsz:=hnx.size;by_cases hlt:j<ls.length
    ·obtain ⟨x,hx⟩:∃ x,ls[j]? = some x:=⟨ls[j],List.getElem?_eq_getElem hlt⟩
     have c0:=HC.out j x hx;rw [<-hnx.cell (p:=⟨b,j,none⟩) hbl] at c0;obtain⟨base,hrow⟩:=HR.out x (List.mem_of_getElem? hx);have hrow2:=Zaf hrow hnx (Nat.le_refl _);obtain⟨za,zc,hxe⟩:=Zac hrow;rw [hxe] at c0 hrow2;have hst:=Zfj hx;have hle2:=Zd2 ls (j+1);have hjt:=Zhk hx;have hjl:=ZiU (ls.take j);have hki:(0:Int)<=(j:Int):=by omega
     have hkj:(j:Int)<(ls.length:Int):=by omega
     have HX:=hide hrow2;have HW:=hide hown;have HN:=hide hnx;have HJT:=hide hjt;have HX1:=hide (HO.out x (List.mem_of_getElem? hx));have hbd:(Zcx (ls.take j)).length+x.2.length<=1000000000:=by omega
     clear hx hrow hrow2 hxe hnx hown hst hjt hle hle2 hjl
     go_wp2_with (first
      | (at_builtin;refine Zdz (fun l=>ZaX ZbR l) (by omega) (by omega) _ rfl _ _ 39 rfl w.heap.size 44 Tryz.underlying39 (.agg (rtC ZbB (.slice none 0 0))) rfl Tryz.infoRoute _ (Zcx (ls.take j)) rfl HW.out base _ x.2 HX1.out rfl HX.out (by omega) (by omega) ?_))
     intro v' w4 hown' hgrow;have N1:=hide (show w4.ownsRow w.heap.size 44 6 v' (Zcx (ls.take (j+1))).length (flat encQ (Zcx (ls.take (j+1)))) by rw [HJT.out,List.length_append];exact hown')
     have N2:=hide (HN.out.grown hgrow (by omega) (fun k hk=>(HW.out.lt k hk).1))
     obtain⟨va,vc,rfl⟩:=Zac hown';clear hown' hgrow HX HW HN HJT HX1
     go_wp2
     go_roundw
     case rel=>exact ⟨j+1,_,by omega,by go_num,rfl,N1.out,N2.out⟩
     case measure=>simp [intOf];omega
    ·have hkn2:¬(j:Int)<(ls.length:Int):=by omega
     have hke:ls.take j=ls:=List.take_of_length_le (by omega)
     rw [hke] at hown |-;have HW:=hide hown;have HN:=hide hnx;clear hown hnx hke hle
     go_wp2
     go_ret
     exact⟨_,rfl,HW.out,HN.out⟩
end Go.Proofs.YtgdgkgmjpnbbcaaGreat
namespace Go.Proofs.YtgdgkgmjpnbbcaaGreat

def par (i:Nat):Nat:=(i-1) / 2

def Zcf (q:Nat->Nat)(i j x:Nat):Nat:=if x=i then q j else if x=j then q i else q x

def ZcN (c:Nat->Int)(q:Nat->Nat)(n:Nat):Prop:=∀ i,0<i->i<n->c (q (par i))<=c (q i)

structure UpInv (c:Nat->Int) (q:Nat->Nat) (n j:Nat):Prop where
 all:∀ i,0<i->i<n->i≠j->c (q (par i))<=c (q i)
 kids:∀ i,0<i->i<n->par i=j->0<j->c (q (par j))<=c (q i)

structure DownInv (c:Nat->Int) (q:Nat->Nat) (n i:Nat):Prop where
 all:∀ k,0<k->k<n->par k≠i->c (q (par k))<=c (q k)
 kids:∀ k,0<k->k<n->par k=i->0<i->c (q (par i))<=c (q k)

theorem Zdr {i:Nat}(h:0<i):par i<i:=by unfold par;omega

theorem Znd {c:Nat->Int}{q:Nat->Nat}{n j:Nat}(h:UpInv c q n j)(hs:j=0\/¬c (q j)<c (q (par j))):ZcN c q n:=by
 intro i h0 hn;by_cases e:i=j
 ·subst e
  rcases hs with hs | hs
  ·omega
  ·omega
 ·exact h.all i h0 hn e

theorem Zpp {c:Nat->Int}{q:Nat->Nat}{n j:Nat}(h:UpInv c q n j)(hj:0<j)(hn:j<n)(hlt:c (q j)<c (q (par j))):UpInv c (Zcf q (par j) j) n (par j):=by
 have hp:=Zdr hj;obtain⟨p,hpe⟩:∃ p,p=par j:=⟨_,rfl⟩;rw [<-hpe] at hlt hp |-
 constructor
 ·intro i h0 hi hne
  have hpi:=Zdr h0;unfold Zcf;by_cases e1:i=j
  ·subst e1
   rw [if_neg (by omega:¬i=p),if_pos rfl,if_pos hpe.symm]
   omega
  ·rw [if_neg hne,if_neg e1]
   have h1:=h.all i h0 hi e1;by_cases e2:par i=p
   ·rw [if_pos e2]
    rw [e2] at h1;omega
   ·rw [if_neg e2]
    by_cases e3:par i=j
    ·rw [if_pos e3]
     have:=h.kids i h0 hi e3 hj;rw [<-hpe] at this;exact this
    ·rw [if_neg e3];exact h1
 ·intro i h0 hi hpar hp0
  have hpi:=Zdr h0;have hpp:=Zdr hp0;have hA:=h.all p hp0 (by omega) (by omega)
  unfold Zcf;rw [if_neg (by omega:¬par p=p),if_neg (by omega:¬par p=j)]
  by_cases e1:i=j
  ·rw [if_neg (by omega:¬i=p),if_pos e1];exact hA
  ·rw [if_neg (by omega:¬i=p),if_neg e1]
   have:=h.all i h0 hi e1;rw [hpar] at this;omega

theorem ZeW {c:Nat->Int}{q:Nat->Nat}{n i:Nat}(h:DownInv c q n i)(hs:∀ k,0<k->k<n->par k=i->c (q i)<=c (q k)):ZcN c q n:=by
 intro k h0 hn;by_cases e:par k=i
 ·rw [e];exact hs k h0 hn e
 ·exact h.all k h0 hn e

theorem ZkG {k i:Nat}(h0:0<k)(h:par k=i):k=2*i+1\/k=2*i+2:=by unfold par at h;omega

theorem Zgo {c:Nat->Int}{q:Nat->Nat}{n i j:Nat}(h:DownInv c q n i)(hj:0<j)(hn:j<n)(hp:par j=i)(hlt:c (q j)<c (q i))(hmin:∀ k,0<k->k<n->par k=i->c (q j)<=c (q k)):DownInv c (Zcf q i j) n j:=by
 have hij:=Zdr hj;rw [hp] at hij
 constructor
 ·intro k h0 hk hne
  have hpk:=Zdr h0;unfold Zcf;by_cases e1:k=i
  ·subst e1
   rw [if_pos rfl,if_neg (by omega:¬par k=k),if_neg hne]
   exact h.kids j hj hn hp h0
  ·rw [if_neg e1]
   by_cases e2:k=j
   ·subst e2
    rw [if_pos rfl,if_pos hp];omega
   ·rw [if_neg e2]
    by_cases e3:par k=i
    ·rw [if_pos e3];exact hmin k h0 hk e3
    ·rw [if_neg e3,if_neg hne];exact h.all k h0 hk e3
 ·intro k h0 hk hpk hj0
  have hpk2:=Zdr h0;unfold Zcf;rw [hp,if_pos rfl,if_neg (by omega:¬k=i),if_neg (by omega:¬k=j)]
  have:=h.all k h0 hk (by omega)
  rw [hpk] at this;exact this

theorem ZiP {c:Nat->Int}{q:Nat->Nat}{n:Nat}(h:ZcN c q n):∀ (m i:Nat),i<=m->i<n->c (q 0)<=c (q i)
 | 0,i,hm,_=>by rw [show i=0 by omega];exact Int.le_refl _
 | m+1,i,hm,hn=>by
  by_cases e:i=0
  ·rw [e];exact Int.le_refl _
  ·have h1:=h i (by omega) hn
   have h2:=Zdr (i:=i) (by omega)
   have h3:=ZiP h m (par i) (by omega) (by omega)
   omega

structure Shuf (q q':Nat->Nat) (n:Nat):Prop where
 into:∀ i,i<n->∃ j,j<n/\q' i=q j
 onto:∀ j,j<n->∃ i,i<n/\q' i=q j
 inj:(∀ i j,i<n->j<n->q i=q j->i=j)->(∀ i j,i<n->j<n->q' i=q' j->i=j)
 rest:∀ x,n<=x->q' x=q x

theorem Shuf.refl (q:Nat->Nat)(n:Nat):Shuf q q n:=⟨fun i h=>⟨i,h,rfl⟩,fun j h=>⟨j,h,rfl⟩,fun h=>h,fun _ _=>rfl⟩

theorem Shuf.trans {q q' q'':Nat->Nat}{n:Nat}(a:Shuf q q' n)(b:Shuf q' q'' n):Shuf q q'' n:=by
 refine⟨fun i h=>?_,fun j h=>?_,fun h=>b.inj (a.inj h),fun x hx=>(b.rest x hx).trans (a.rest x hx)⟩
 ·obtain ⟨j,hj,e⟩:=b.into i h
  obtain⟨k,hk,e2⟩:=a.into j hj;exact⟨k,hk,e.trans e2⟩
 ·obtain ⟨i,hi,e⟩:=a.onto j h
  obtain⟨k,hk,e2⟩:=b.onto i hi;exact⟨k,hk,e2.trans e⟩

theorem Zb3 (q:Nat->Nat)(i j x:Nat):(x=i/\Zcf q i j x=q j)\/(x=j/\Zcf q i j x=q i)\/(x≠i/\x≠j/\Zcf q i j x=q x):=by
 unfold Zcf;by_cases e:x=i
 ·exact .inl ⟨e,if_pos e⟩
 ·rw [if_neg e]
  by_cases e2:x=j
  ·exact .inr (.inl ⟨e2,if_pos e2⟩)
  ·exact .inr (.inr ⟨e,e2,if_neg e2⟩)

theorem Shuf.swap (q:Nat->Nat){n i j:Nat}(hi:i<n)(hj:j<n):Shuf q (Zcf q i j) n:=by
 refine⟨fun x hx=>?_,fun x hx=>?_,fun h x y hx hy e=>?_,fun x hx=>?_⟩
 ·rcases Zb3 q i j x with ⟨_,e⟩ | ⟨_,e⟩ | ⟨_,_,e⟩
  ·exact ⟨j,hj,e⟩
  ·exact ⟨i,hi,e⟩
  ·exact ⟨x,hx,e⟩
 ·by_cases e1:x=i
  ·refine ⟨j,hj,?_⟩
   subst e1
   rcases Zb3 q x j j with ⟨e2,e⟩ | ⟨_,e⟩ | ⟨_,e2,_⟩
   ·rw [e,e2]
   ·exact e
   ·exact absurd rfl e2
  ·by_cases e3:x=j
   ·refine ⟨i,hi,?_⟩
    subst e3
    rcases Zb3 q i x i with ⟨_,e⟩ | ⟨e2,e⟩ | ⟨e2,_,_⟩
    ·exact e
    ·rw [e,e2]
    ·exact absurd rfl e2
   ·refine ⟨x,hx,?_⟩
    unfold Zcf;rw [if_neg e1,if_neg e3]
 ·rcases Zb3 q i j x with ⟨a1,a2⟩ | ⟨a1,a2⟩ | ⟨a1,a3,a2⟩ <;> rcases Zb3 q i j y with ⟨b1,b2⟩ | ⟨b1,b2⟩ | ⟨b1,b3,b2⟩ <;> rw [a2,b2] at e
  ·omega
  ·have:=h _ _ hj hi e;omega
  ·have:=h _ _ hj hy e;omega
  ·have:=h _ _ hi hj e;omega
  ·omega
  ·have:=h _ _ hi hy e;omega
  ·have:=h _ _ hx hj e;omega
  ·have:=h _ _ hx hi e;omega
  ·exact h _ _ hx hy e
 ·rcases Zb3 q i j x with ⟨a1,_⟩ | ⟨a1,_⟩ | ⟨_,_,e⟩
  ·omega
  ·omega
  ·exact e

theorem Shuf.more {q q':Nat->Nat}{n m:Nat}(a:Shuf q q' n)(h:n<=m):Shuf q q' m:=by
 refine⟨fun i hi=>?_,fun j hj=>?_,fun hinj x y hx hy e=>?_,fun x hx=>a.rest x (by omega)⟩
 ·by_cases e:i<n
  ·obtain ⟨j,hj,e2⟩:=a.into i e;exact⟨j,by omega,e2⟩
  ·exact ⟨i,hi,a.rest i (by omega)⟩
 ·by_cases e:j<n
  ·obtain ⟨i,hi,e2⟩:=a.onto j e;exact⟨i,by omega,e2⟩
  ·exact ⟨j,hj,a.rest j (by omega)⟩
 ·by_cases e1:x<n <;> by_cases e2:y<n
  ·exact a.inj (fun i j hi hj=>hinj i j (by omega) (by omega)) x y e1 e2 e
  ·obtain ⟨j,hj,e3⟩:=a.into x e1
   rw [e3,a.rest y (by omega)] at e
   have:=hinj j y (by omega) hy e;omega
  ·obtain ⟨j,hj,e3⟩:=a.into y e2
   rw [e3,a.rest x (by omega)] at e
   have:=hinj x j hx (by omega) e;omega
  ·rw [a.rest x (by omega),a.rest y (by omega)] at e
   exact hinj x y hx hy e

theorem Zpb {c:Nat->Int}{q:Nat->Nat}{n k:Nat}(h:ZcN c q n):UpInv c (fun x=>if x=n then k else q x) (n+1) n:=by
 constructor
 ·intro i h0 hi hne
  have:=Zdr h0;rw [if_neg (by omega:¬par i=n),if_neg hne]
  exact h i h0 (by omega)
 ·intro i h0 hi hp _
  have:=Zdr h0;omega

theorem Zod {c:Nat->Int}{q:Nat->Nat}{n:Nat}(h:ZcN c q (n+1)):DownInv c (Zcf q 0 n) n 0:=by
 constructor
 ·intro k h0 hk hne
  have:=Zdr h0;unfold Zcf;rw [if_neg hne,if_neg (by omega:¬par k=n),if_neg (by omega:¬k=0),if_neg (by omega:¬k=n)]
  exact h k h0 (by omega)
 ·intro k _ _ _ h0
  omega
end Go.Proofs.YtgdgkgmjpnbbcaaGreat
namespace Go.Proofs.YtgdgkgmjpnbbcaaGreat
open Go.RowKit
set_option linter.unusedSimpArgs false
set_option linter.unusedVariables false
set_option maxRecDepth 100000
set_option maxHeartbeats 8000000
def ptrV (k:Nat):Value:=.pointer (some ⟨k,0,none⟩)
def ptrs (q:Nat->Nat)(n:Nat):List Value:=(List.range n).map (fun i=>ptrV (q i))
theorem ZeD {q:Nat->Nat}{n i:Nat}(h:i<n):(ptrs q n)[i]? = some (ptrV (q i)):=by simp [ptrs,h]
theorem Zga (q:Nat->Nat)(n:Nat):(ptrs q n).length=n:=by simp [ptrs]
structure HQ (W:World) (lo:Nat) (u:Value) (n:Nat) (q:Nat->Nat) (wd:Nat->WayD) (wv:Nat->Value):Prop where
 row:W.ownsRow lo 102 1 u n (ptrs q n)
 way:∀ i,i<n->W.heap[q i]? = some (.cells (wayC (wd (q i)) (wv (q i))) 48)
 sl:∀ i,i<n->∃ a l c,wv (q i)=.slice a l c
theorem HQ.cell {W:World}{lo n:Nat}{u:Value}{q:Nat->Nat}{wd:Nat->WayD}{wv:Nat->Value}(h:HQ W lo u n q wd wv){i:Nat}(hi:i<n):∃ g cap,u=.slice (some ⟨g,0,none⟩) n cap/\W.cell? ⟨g,i,none⟩=some (ptrV (q i))/\g<W.heap.size:=by
 rcases h.row.2 with ⟨_,e⟩ | ⟨g,cap,cur,hv,_⟩
 ·omega
 ·refine ⟨g,cap,hv,?_,(h.row.lt g (by rw [hv];rfl)).2⟩
  have:=World.ownsRow.cellAt (by rw [<-hv];exact h.row) i (by omega)
  rw [this,ZeD hi]
theorem HQ.below {W W':World}{lo n:Nat}{u:Value}{q:Nat->Nat}{wd:Nat->WayD}{wv:Nat->Value}(h:HQ W lo u n q wd wv)(hb:Below W.heap.size W W'):HQ W' lo u n q wd wv:=
 ⟨Zaf h.row hb (Nat.le_refl _),fun i hi=>(hb.block _ (Zab (h.way i hi))).trans (h.way i hi),h.sl⟩
theorem Ze2 (W:World)(lo n:Nat)(u:Value)(q:Nat->Nat)(wd:Nat->WayD)(wv:Nat->Value)(i j:Nat)(h:HQ W lo u n q wd wv)(hi:i<n)(hj:j<n):
  Calls Tryz.prog 178 #[u,.int .i64 (i:Int),.int .i64 (j:Int)] W fun e W'=>e=.returned (.bool (decide ((wd (q i)).cost<(wd (q j)).cost)))/\Below W.heap.size W W':=by
 obtain⟨g,cap,rfl,ci,hg⟩:=h.cell hi;obtain⟨g2,cap2,e2,cj,_⟩:=h.cell hj;cases e2
 obtain⟨ai,li,ci2,ei⟩:=h.sl i hi;obtain⟨aj,lj,cj2,ej⟩:=h.sl j hj;have wi:=h.way i hi;have wj:=h.way j hj;rw [ei] at wi;rw [ej] at wj;obtain⟨x,hx⟩:∃ x,x=wd (q i):=⟨_,rfl⟩;obtain⟨y,hy⟩:∃ y,y=wd (q j):=⟨_,rfl⟩;obtain⟨p,hp⟩:∃ p,p=q i:=⟨_,rfl⟩;obtain⟨r,hr⟩:∃ r,r=q j:=⟨_,rfl⟩;rw [<-hx] at wi |-;rw [<-hy] at wj |-;rw [<-hp] at ci wi;rw [<-hr] at cj wj;unfold ptrV at ci cj;have a0:=Zaa wi 0;have a1:=Zaa wi 1;have a2:=Zaa wi 2;have b0:=Zaa wj 0;have b1:=Zaa wj 1;have b2:=Zaa wj 2;simp [wayC] at a0 a1 a2 b0 b1 b2
 have hBt:=hide (fun W=>Zcl (.slice ai li ci2) (.slice aj lj cj2) x y W)
 unfold wayC Zbi at hBt;have h1:(0:Int)<=(i:Int):=by omega
 have h2:(i:Int)<(n:Int):=by omega
 have h3:(0:Int)<=(j:Int):=by omega
 have h4:(j:Int)<(n:Int):=by omega
 have lp:=Zab wi;have lr:=Zab wj;clear h hx hy hp hr wi wj ei ej
 go_enter Tryz.func178,Tryz.ntmps178
 go_wp2
 go_region_held3 (fun V=>V.cell? ⟨g,i,none⟩=some (.pointer (some ⟨p,0,none⟩))/\V.cell? ⟨g,j,none⟩=some (.pointer (some ⟨r,0,none⟩))/\V.cell? ⟨p,0,none⟩=some (.int .i64 x.to)/\V.cell? ⟨p,1,none⟩=some (.int .i64 x.cost)/\V.cell? ⟨p,2,none⟩=some (.slice ai li ci2)/\V.cell? ⟨r,0,none⟩=some (.int .i64 y.to)/\V.cell? ⟨r,1,none⟩=some (.int .i64 y.cost)/\V.cell? ⟨r,2,none⟩=some (.slice aj lj cj2)) (first | (refine ⟨?_,?_,?_,?_,?_,?_,?_,?_⟩ <;> (refine Eq.trans (Below.cell (B:=W.heap.size) (w:=W.drew) hbb ?_) ?_ <;> assumption)) | go_keep) (first | (go_at_call 88;refine (hBt.out _).mono ?_;rintro e w2 ⟨rfl,hbb⟩))
 go_wp2
 go_ret
 exact⟨rfl,((Below.refl W.heap.size W).drew).trans hbb⟩
theorem Zh3 (W:World)(a:Option Addr)(n cap:Nat):Calls Tryz.prog 90 #[.slice a n cap] W fun e W'=>e=.returned (.int .i64 (n:Int))/\W=W':=by
 go_enter Tryz.func90,Tryz.ntmps90
 go_wp2
 go_ret
 exact⟨rfl,rfl⟩
theorem Zid {W:World}{lo n g cap i:Nat}{e:TypeId}{q:Nat->Nat}(h:W.ownsRow lo e 1 (.slice (some ⟨g,0,none⟩) n cap) n (ptrs q n))(hi:i<n)(k:Nat):(W.setCell ⟨g,i,none⟩ (ptrV k)).ownsRow lo e 1 (.slice (some ⟨g,0,none⟩) n cap) n (ptrs (fun x=>if x=i then k else q x) n):=by
 rcases h.2 with ⟨e1,_⟩ | ⟨g',cap',cur,hv,hg,hh,hnc,hcm,hcs,htk⟩
 ·cases e1
 ·cases hv
  refine⟨by rw [Zga];omega,.inr ⟨g,cap,cur.setIfInBounds i (ptrV k),rfl,hg,heap_setCell_same W g i _ _ _ hh,hnc,hcm,by simpa using hcs,?_⟩⟩
  have e2:(cur.setIfInBounds i (ptrV k)).toList=cur.toList.set i (ptrV k):=by simp
  rw [e2,List.take_set];have e3:cur.toList.take (n*1)=ptrs q n:=htk;rw [Nat.mul_one] at e3 |-;rw [e3]
  apply List.ext_getElem?
  intro x;rw [List.getElem?_set];by_cases hx:x<n
  ·rw [ZeD hx]
   by_cases e4:i=x
   ·subst e4
    rw [if_pos rfl,if_pos (by rw [Zga];exact hi),ZeD hi,if_pos rfl]
   ·rw [if_neg e4,ZeD hx,if_neg (fun e=>e4 e.symm)]
  ·rw [List.getElem?_eq_none (by rw [Zga];omega),if_neg (by omega),List.getElem?_eq_none (by rw [Zga];omega)]
theorem Zfk (W:World)(lo n:Nat)(u:Value)(q:Nat->Nat)(i j:Nat)(h:W.ownsRow lo 102 1 u n (ptrs q n))(hi:i<n)(hj:j<n):
  Calls Tryz.prog 179 #[u,.int .i64 (i:Int),.int .i64 (j:Int)] W fun e W'=>e=.returned (.tuple #[])/\W'.ownsRow lo 102 1 u n (ptrs (Zcf q i j) n)/\W.grownBy W' u.ownBlock:=by
 rcases h.2 with ⟨_,e⟩ | ⟨g,cap,cur,hv,hg,hh,_⟩
 ·omega
 subst hv;have ci:=(World.ownsRow.cellAt h i (by omega)).trans (ZeD hi)
 have cj:=(World.ownsRow.cellAt h j (by omega)).trans (ZeD hj)
 have fz:=Zae hh;obtain⟨p,hp⟩:∃ p,p=q i:=⟨_,rfl⟩;obtain⟨r,hr⟩:∃ r,r=q j:=⟨_,rfl⟩;rw [<-hp] at ci;rw [<-hr] at cj;unfold ptrV at ci cj;have h1:(0:Int)<=(i:Int):=by omega
 have h2:(i:Int)<(n:Int):=by omega
 have h3:(0:Int)<=(j:Int):=by omega
 have h4:(j:Int)<(n:Int):=by omega
 obtain⟨y,hy⟩:∃ y,(W.setCell ⟨g,i,none⟩ (.pointer (some ⟨r,0,none⟩))).cell? ⟨g,j,none⟩=some y:=by
  have o1:=Zid h hi r;exact⟨_,(World.ownsRow.cellAt o1 j (by omega)).trans (ZeD hj)⟩
 have HP:=hide hp;have HR:=hide hr;have HH:=hide h;have HO:=hide (show ((W.setCell ⟨g,i,none⟩ (.pointer (some ⟨r,0,none⟩))).setCell ⟨g,j,none⟩ (.pointer (some ⟨p,0,none⟩))).ownsRow lo 102 1 (.slice (some ⟨g,0,none⟩) n cap) n (ptrs (Zcf q i j) n) by
  have o2:=Zid (Zid h hi r) hj p;have e:(fun x=>if x=j then p else if x=i then r else q x)=Zcf q i j:=by
   funext x
   unfold Zcf;by_cases e1:x=j
   ·rw [if_pos e1]
    by_cases e2:x=i
    ·rw [if_pos e2,hp, <-e2,e1]
    ·rw [if_neg e2,if_pos e1,hp]
   ·rw [if_neg e1]
    by_cases e2:x=i
    ·rw [if_pos e2,if_pos e2,hr]
    ·rw [if_neg e2,if_neg e2,if_neg e1]
  rw [e] at o2;exact o2)
 have HG:=hide (show W.grownBy ((W.setCell ⟨g,i,none⟩ (.pointer (some ⟨r,0,none⟩))).setCell ⟨g,j,none⟩ (.pointer (some ⟨p,0,none⟩))) (some g) from Zai (Zal W g _ _) (Zal _ g _ _))
 clear hh hp hr h
 go_enter Tryz.func179,Tryz.ntmps179
 go_wp2
 go_region
 go_wp2
 go_returns
 exact⟨rfl,HO.out.drew,⟨HG.out.os,HG.out.tape,HG.out.output,HG.out.size,HG.out.block⟩⟩
theorem Zj1 {P:Program}{t:TypeId}{p:Addr}{nm:String}{w:World}:(Builtin.ssaWrapNilChk_ #[t] t #[.pointer (some p),strVal "",strVal nm]).run P w=.ok (.pointer (some p)) w:=rfl
theorem Zg4 {P:Program}{fuel:Nat}{t elem e2:TypeId}{f:FuncId}{i:TypeInfo}{m:Go.Method}{name:String}{p:Addr}{u:Value}{w:World}(hi:P.info? t=some i)(hm:i.methods.find? (·.name==name)=some m)(hp:m.path=#[])(hf:m.func=some (f,false))
  (hu:P.underlying t=some (.pointer elem)) (hd:P.underlying elem=some (.slice e2)) (hc:w.cell? p=some u):
  (method (fuel+1) t (.pointer (some p)) name).run P w=.ok (f,u) w:=by
 have hagg:(isAgg elem).run P w=.ok false w:=by
  unfold isAgg;simp [run_underlying hd,go_sem]
 unfold method;simp [typeInfo,hi,hm,hp,hf,follow,receiverAt,run_underlying hu,Place.get,Zj1,asAddr,hagg,go_sem,loadVar,hc]
theorem Zcn {P:Program}{fuel:Nat}{t elem e2:TypeId}{f:FuncId}{name:String}{p:Addr}{u:Value}{w:World} (h:(P.info? t).map (fun i=>(i.methods.find? (·.name==name)).map (fun m=>(m.path,m.func)))=some (some (#[],some (f,false))))
  (hu:P.underlying t=some (.pointer elem)) (hd:P.underlying elem=some (.slice e2)) (hc:w.cell? p=some u):
  (method (fuel+1) t (.pointer (some p)) name).run P w=.ok (f,u) w:=by
 obtain⟨i,hi,h1⟩:=Option.map_eq_some_iff.1 h;obtain⟨m,hm,h2⟩:=Option.map_eq_some_iff.1 h1;simp only [Prod.mk.injEq] at h2
 exact Zg4 hi hm h2.1 h2.2 hu hd hc
theorem ZeN:Tryz.prog.underlying 138=some (.pointer 105):=by kernel_rfl
theorem Zgd:Tryz.prog.underlying 105=some (.slice 102):=by kernel_rfl
theorem ZdV {p:Addr}{u:Value}{w:World}(hc:w.cell? p=some u):(method 329 138 (.pointer (some p)) "Less").run Tryz.prog w=.ok (178,u) w:=
 Zcn (by kernel_rfl) ZeN Zgd hc
theorem Zks {p:Addr}{u:Value}{w:World}(hc:w.cell? p=some u):(method 329 138 (.pointer (some p)) "Len").run Tryz.prog w=.ok (90,u) w:=
 Zcn (by kernel_rfl) ZeN Zgd hc
theorem ZdW {p:Addr}{u:Value}{w:World}(hc:w.cell? p=some u):(method 329 138 (.pointer (some p)) "Swap").run Tryz.prog w=.ok (179,u) w:=
 Zcn (by kernel_rfl) ZeN Zgd hc
end Go.Proofs.YtgdgkgmjpnbbcaaGreat
