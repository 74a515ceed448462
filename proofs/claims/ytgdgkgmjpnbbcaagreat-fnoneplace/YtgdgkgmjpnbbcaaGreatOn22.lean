/-
  OnM OnSt AreaS
-/
import Derived.Test.YtgdgkgmjpnbbcaaGreatOn21
import Derived.Test.YtgdgkgmjpnbbcaaGreatOn12
import Derived.Test.YtgdgkgmjpnbbcaaGreatOn20
import Derived.Test.YtgdgkgmjpnbbcaaGreatOn1
import Derived.Test.YtgdgkgmjpnbbcaaGreatOn2
namespace Go.Proofs.YtgdgkgmjpnbbcaaGreat
open Go.RowKit
set_option linter.unusedSimpArgs false
set_option linter.unusedVariables false
set_option maxRecDepth 100000
set_option maxHeartbeats 8000000
def dupL (ls:List Lk):Nat->Bool
 | 0=>false
 | k+1=>match ls[k]?,ls[k+1]? with
  | some x,some y=>x.a==y.a&&x.b==y.b
  | _,_=>false
def Zfu (l:Lk):Lk:=⟨l.a,l.b,l.c,0⟩
def Zbk (ls:List Lk):Nat->List Lk
 | 0=>[]
 | k+1=>match ls[k]? with
  | some l=>if dupL ls k then Zbk ls k else Zbk ls k++[Zfu l]
  | none=>Zbk ls k
def ZcS (ls:List Lk)(bs:List Bool):Nat->List Bool
 | 0=>[]
 | k+1=>match bs[k]? with
  | some b=>if dupL ls k then ZcS ls bs k else ZcS ls bs k++[b]
  | none=>ZcS ls bs k
theorem ZdX {ls:List Lk}{k:Nat}(h:dupL ls k=true):Zbk ls (k+1)=Zbk ls k:=by
 simp only [Zbk]
 split
 ·rw [if_pos h]
 ·rfl
theorem ZgG {ls:List Lk}{k:Nat}{l:Lk}(h:dupL ls k=false)(hl:ls[k]? = some l):Zbk ls (k+1)=Zbk ls k++[Zfu l]:=by
 simp only [Zbk,hl,h]
 rfl
theorem ZgF {ls:List Lk}{bs:List Bool}{k:Nat}(h:dupL ls k=true):ZcS ls bs (k+1)=ZcS ls bs k:=by
 simp only [ZcS]
 split
 ·rw [if_pos h]
 ·rfl
theorem Zi0 {ls:List Lk}{bs:List Bool}{k:Nat}{b:Bool}(h:dupL ls k=false)(hb:bs[k]? = some b):ZcS ls bs (k+1)=ZcS ls bs k++[b]:=by
 simp only [ZcS,hb,h]
 rfl
theorem Ze9 {ls:List Lk}{bs:List Bool}(h:bs.length=ls.length):∀ k,k<=ls.length->(ZcS ls bs k).length=(Zbk ls k).length/\(Zbk ls k).length<=k
 | 0,_=>⟨rfl,Nat.le_refl _⟩
 | k+1,hk=>by
  obtain⟨i1,i2⟩:=Ze9 h k (by omega)
  cases hd:dupL ls k with
  | true=>rw [ZdX hd,ZgF hd];exact⟨i1,by omega⟩
  | false=>
   rw [ZgG hd (List.getElem?_eq_getElem (show k<ls.length by omega)),Zi0 hd (List.getElem?_eq_getElem (show k<bs.length by omega))]
   simp only [List.length_append,List.length_cons,List.length_nil]
   omega
theorem Zn6 {x y z:Lk}(h:ordL x y<0)(hn:¬(x.a=y.a/\x.b=y.b))(ha:z.a=x.a)(hb:z.b=x.b):ordL z (Zfu y)<0:=by
 unfold ordL at h |-;unfold Zfu;simp only [ha,hb]
 simp only [orN,cmpN] at h |-
 by_cases h1:x.a<y.a
 ·simp [h1]
 ·by_cases h2:y.a<x.a
  ·simp [h1,h2] at h
  ·have e:x.a=y.a:=by omega
   by_cases h3:x.b<y.b
   ·simp [h1,h2,h3]
   ·by_cases h4:y.b<x.b
    ·simp [h1,h2,h3,h4] at h
    ·exact absurd ⟨e,by omega⟩ hn
structure OneOk (ls:List Lk) (k:Nat):Prop where
 asc:∀ j,j<(Zbk ls k).length->ZcF ordL (Zbk ls k) j=true
 last:∀ l,0<k->ls[k-1]? = some l->∃ z,(Zbk ls k)[(Zbk ls k).length-1]? = some z/\z.a=l.a/\z.b=l.b
 of:∀ l∈Zbk ls k,∃ m∈ls,l=Zfu m
theorem Zo6 {ls:List Lk}(h:ascB ordL ls=true):∀ k,k<=ls.length->OneOk ls k
 | 0,_=>⟨fun j hj=>by simp [Zbk] at hj,fun _ h=>by omega,fun l hl=>by simp [Zbk] at hl⟩
 | k+1,hk=>by
  have ih:=Zo6 h k (by omega)
  have hl:ls[k]? = some ls[k]:=List.getElem?_eq_getElem (show k<ls.length by omega)
  cases hd:dupL ls k with
  | true=>
   rw [show OneOk ls (k+1)↔OneOk ls (k+1) from Iff.rfl]
   refine⟨by rw [ZdX hd];exact ih.asc,?_,by rw [ZdX hd];exact ih.of⟩
   intro l _ hl';rw [ZdX hd];rw [Nat.add_sub_cancel,hl] at hl';cases hl'
   cases k with
   | zero=>simp [dupL] at hd
   | succ j=>
    have hj:ls[j]? = some ls[j]:=List.getElem?_eq_getElem (show j<ls.length by omega)
    simp only [dupL,hj,hl,Bool.and_eq_true,beq_iff_eq] at hd
    obtain⟨z,h1,h2,h3⟩:=ih.last ls[j] (by omega) (by rw [Nat.add_sub_cancel];exact hj)
    exact⟨z,h1,by rw [h2,hd.1],by rw [h3,hd.2]⟩
  | false=>
   have e:=ZgG hd hl;have elen:(Zbk ls (k+1)).length=(Zbk ls k).length+1:=by rw [e];simp
   refine⟨fun j hj=>?_,fun l _ hl'=>?_,fun l hm=>?_⟩
   ·rw [elen] at hj
    cases j with
    | zero=>rfl
    | succ j=>
     by_cases hjl:j+1<(Zbk ls k).length
     ·have h1:=ih.asc (j+1) hjl
      have e1:(Zbk ls k)[j]? = some (Zbk ls k)[j]:=List.getElem?_eq_getElem (by omega)
      have e2:(Zbk ls k)[j+1]? = some (Zbk ls k)[j+1]:=List.getElem?_eq_getElem hjl;rw [ZbF e1 e2] at h1;rw [e,ZbF (show (Zbk ls k++[Zfu ls[k]])[j]? = some _ by rw [List.getElem?_append_left (by omega)];exact e1) (show (Zbk ls k++[Zfu ls[k]])[j+1]? = some _ by rw [List.getElem?_append_left hjl];exact e2)]
      exact h1
     ·have hjk:j+1=(Zbk ls k).length:=by omega
      cases k with
      | zero=>simp [Zbk] at hjk
      | succ i=>
       have hi:ls[i]? = some ls[i]:=List.getElem?_eq_getElem (show i<ls.length by omega)
       obtain⟨z,h1,h2,h3⟩:=ih.last ls[i] (by omega) (by rw [Nat.add_sub_cancel];exact hi)
       rw [<-hjk,Nat.add_sub_cancel] at h1;have hord:ordL ls[i] ls[i+1]<0:=by
        have h9:=List.all_eq_true.1 h (i+1) (List.mem_range.2 (by omega))
        rw [ZbF hi hl] at h9
        simpa using h9
       have hnd:¬(ls[i].a=ls[i+1].a/\ls[i].b=ls[i+1].b):=fun hh=>by
        simp only [dupL,hi,hl,hh.1,hh.2] at hd
        simp at hd
       rw [e,ZbF (show (Zbk ls (i+1)++[Zfu ls[i+1]])[j]? = some z by rw [List.getElem?_append_left (by omega)];exact h1) (show (Zbk ls (i+1)++[Zfu ls[i+1]])[j+1]? = some (Zfu ls[i+1]) by rw [List.getElem?_append_right (by omega),hjk];simp)]
       exact decide_eq_true (Zn6 hord hnd h2 h3)
   ·rw [Nat.add_sub_cancel,hl] at hl'
    cases hl'
    refine⟨Zfu ls[k],?_,rfl,rfl⟩
    rw [elen,Nat.add_sub_cancel,e,List.getElem?_append_right (Nat.le_refl _)];simp
   ·rw [e] at hm
    rcases List.mem_append.1 hm with h1 | h1
    ·exact ih.of l h1
    ·have:l=Zfu ls[k]:=by simpa using h1
     exact⟨ls[k],List.getElem_mem _,this⟩
theorem Zo8 {N:Int}{ls:List Lk}{ts:List Th}(hok:Za2 ⟨N,ls,ts⟩=true):Za2 ⟨N,Zbk ls ls.length,ts⟩=true:=by
 simp only [Za2,Zer,Bool.and_eq_true,decide_eq_true_eq] at hok |-
 obtain⟨⟨h1,⟨h2,h3⟩,h4⟩,h5⟩:=hok;have O:=Zo6 h4 ls.length (Nat.le_refl _);have hl:=(Ze9 (bs:=List.replicate ls.length true) (by simp) ls.length (Nat.le_refl _)).2
 refine⟨⟨h1,⟨by omega,?_⟩,?_⟩,h5⟩
 ·unfold Zce
  refine Zbf fun j hj=>?_
  unfold okAt;cases e:(Zbk ls ls.length)[j]? with
  | none=>rfl
  | some y=>
   simp only []
   obtain⟨m,hm,rfl⟩:=O.of y (List.mem_of_getElem? e);obtain⟨i,hi,rfl⟩:=List.getElem_of_mem hm;have h6:=List.all_eq_true.1 h3 i (List.mem_range.2 hi);rw [Zcz (List.getElem?_eq_getElem hi)] at h6;simp only [ZbG,inB,Bool.and_eq_true,decide_eq_true_eq] at h6 |-
   simp only [Zfu]
   exact⟨h6.1,by omega,by omega⟩
 ·unfold ascB
  exact Zbf fun j hj=>O.asc j hj
theorem Zn0 {ls:List Lk}(h:ascB ordL ls=true):∀ l∈Zbk ls ls.length,l.r=0:=fun l hl=>by
 obtain⟨m,_,rfl⟩:=(Zo6 h ls.length (Nat.le_refl _)).of l hl
 rfl
theorem Zo2 {N:Int}{ls:List Lk}{ts:List Th}(hok:Za2 ⟨N,ls,ts⟩=true):ascB ordL ls=true/\ascB ordT ts=true/\∀ t∈ts,1<=t.c/\t.c<=1000:=by
 have ht:=ZkC (by simp only [Za2,Bool.and_eq_true] at hok;exact hok.2)
 simp only [Za2,Zer,Zdf,Bool.and_eq_true] at hok
 refine⟨hok.1.2.2,hok.2.2,fun t h=>?_⟩
 have:=ht t h;simp only [Zd4,inB,Bool.and_eq_true,decide_eq_true_eq] at this
 omega
theorem Znv {ls:List Lk}(h:∀ l∈ls,l.r=0)(v u:Int){r:Int}(hr:r≠0):ZdO ls v u r=0:=by
 unfold ZdO;have:ls.find? (ZdJ v u r)=none:=by
  rw [List.find?_eq_none];intro l hl;have:=h l hl;simp only [ZdJ,this]
  simp
  intro h9;exact absurd h9.symm hr
 simp [this]
theorem Zi1 {ls:List Lk}(h:∀ l∈ls,l.r=0)(v:Int):ZaC ls v=[]\/ZaC ls v=[0]:=by
 have n1:∀ r:Int,r≠0->decide (0<(ZdK ls v r).length)=false:=fun r hr=>by
  have:ZdK ls v r=[]:=by
   unfold ZdK;rw [List.filter_eq_nil_iff];intro u _;rw [Znv h v u hr];simp
  rw [this]
  rfl
 unfold ZaC;simp only [List.filter_cons,List.filter_nil,n1 1 (by omega),n1 2 (by omega)]
 cases decide (0<(ZdK ls v 0).length) with
 | true=>exact .inr rfl
 | false=>exact .inl rfl
theorem Zhp {ls:List Lk}(h:∀ l∈ls,l.r=0)(v:Int):ZeS ls v=false:=by
 unfold ZeS
 rcases Zi1 h v with e | e <;> rw [e] <;> rfl
theorem Zmg {ls:List Lk}(h:∀ v,ZeS ls v=false)(zs:List Bool)(xs:List RecD):∀ k,idC ls zs xs k=xs
 | 0=>rfl
 | k+1=>by
  simp only [idC,h,Bool.and_false]
  exact Zmg h zs xs k
theorem ZiR {ls:List Lk}{ts:List Th}{bs zs:List Bool}{N:Nat}(h:∀ v,ZeS ls v=false):Zc4 ls ts bs zs N=idB ts zs (idA ls bs zs N N) ts.length:=by
 unfold Zc4;simp only [idR,Zmg h]
theorem ZmC {ls:List Lk}{ts:List Th}{bs zs:List Bool}{N:Nat}(hok:Za2 ⟨(N:Int),ls,ts⟩=true)(h:∀ v,ZeS ls v=false):∀ r∈Zc4 ls ts bs zs N,r.kind≠2:=by
 simp only [Za2,Bool.and_eq_true] at hok
 obtain⟨⟨h1,h2⟩,h3⟩:=hok;have hN:N<=6:=by simp only [inB,Bool.and_eq_true,decide_eq_true_eq] at h1;omega
 have hA:=ZjF (bs:=bs) (zs:=zs) (ZoK h2) hN N hN;have hB:=ZjG (zs:=zs) (by omega) (ZkC h3) hA ts.length
 intro r hr hk;rw [ZiR h] at hr;have h9:=hB.his r.owner;unfold cntR at h9;have h8:r∈(idB ts zs (idA ls bs zs N N) ts.length).filter (hisR r.owner):=List.mem_filter.2 ⟨hr,by simp [hisR,hk]⟩
 rw [List.length_eq_zero_iff] at h9;rw [h9] at h8;cases h8
theorem Zkr {xs:List RecD}{r x:RecD}:x∈putD xs r↔(x∈xs/\Zas x r=true)\/x=r\/(x∈xs/\Zas r x=true):=by
 unfold putD;simp only [List.mem_append,List.mem_filter,List.mem_singleton,or_assoc]
theorem ZhA (t u:Th):Zas (ZbV t) (ZbV u)=(decide (t.o<u.o)||(t.o==u.o&&decide (t.k<u.k))):=by
 simp [Zas,ZbV]
 rfl
theorem ZmH {t u:Th}(h:ordT t u<0):t.k<u.k\/(t.k=u.k/\t.o<u.o):=by
 unfold ordT at h;simp only [orN,cmpN] at h
 by_cases h1:t.k<u.k
 ·exact .inl h1
 ·by_cases h2:u.k<t.k
  ·simp [h1,h2] at h
  ·by_cases h3:t.o<u.o
   ·exact .inr ⟨by omega,h3⟩
   ·by_cases h4:u.o<t.o
    ·simp [h1,h2,h3,h4] at h
    ·simp [h1,h2,h3,h4] at h
theorem ZfX {ts:List Th}(h:ascB ordT ts=true):∀ (d i:Nat) (t u:Th),ts[i]? = some t->ts[i+d+1]? = some u->t.k<u.k\/(t.k=u.k/\t.o<u.o)
 | 0,i,t,u,ht,hu=>by
  have hlt:i+1<ts.length:=(List.getElem?_eq_some_iff.1 hu).1;have h9:=List.all_eq_true.1 h (i+1) (List.mem_range.2 hlt);rw [ZbF ht hu] at h9;exact ZmH (by simpa using h9)
 | d+1,i,t,u,ht,hu=>by
  have hlt:i+(d+1)+1<ts.length:=(List.getElem?_eq_some_iff.1 hu).1;have hm:ts[i+d+1]? = some ts[i+d+1]:=List.getElem?_eq_getElem (by omega)
  have h1:=ZfX h d i t _ ht hm;have h9:=List.all_eq_true.1 h (i+d+1+1) (List.mem_range.2 hlt);rw [ZbF hm (show ts[i+d+1+1]? = some u from hu)] at h9
  have h2:=ZmH (by simpa using h9)
  omega
theorem ZgV {ts:List Th}{zs:List Bool}{xs:List RecD}(h:ascB ordT ts=true){j:Nat}{t:Th}(ht:ts[j]? = some t)(hu:upB zs (t.o-1).toNat=true):∀ k,j<k->k<=ts.length->ZbV t∈idB ts zs xs k
 | 0,hk,_=>by omega
 | k+1,hk,hkl=>by
  have hs:ts[k]? = some ts[k]:=List.getElem?_eq_getElem (by omega)
  simp only [idB,hs]
  by_cases e:j=k
  ·subst e
   rw [ht] at hs;have:=Option.some.inj hs;rw [<-this,hu];simp only [if_true]
   exact Zkr.2 (.inr (.inl rfl))
  ·have ih:=ZgV h (xs:=xs) ht hu k (by omega) (by omega)
   split
   ·have h1:=ZfX h (k-j-1) j t ts[k] ht (by rw [show j+(k-j-1)+1=k by omega];exact hs)
    rw [Zkr,ZhA,ZhA]
    rcases Int.lt_trichotomy t.o ts[k].o with h2 | h2 | h2
    ·exact .inl ⟨ih,by simp [h2]⟩
    ·exact .inl ⟨ih,by simp [h2];omega⟩
    ·exact .inr (.inr ⟨ih,by simp [h2]⟩)
   ·exact ih
theorem ZmD {ls:List Lk}{ts:List Th}{bs zs:List Bool}{N:Nat}(hb:∀ v,ZeS ls v=false)(h:ascB ordT ts=true){j:Nat}{t:Th}(ht:ts[j]? = some t)(hu:upB zs (t.o-1).toNat=true):ZbV t∈Zc4 ls ts bs zs N:=by
 rw [ZiR hb];exact ZgV h ht hu _ (List.getElem?_eq_some_iff.1 ht).1 (Nat.le_refl _)
theorem Zm9 {xs:List RecD}{al:List Int}{src:Int}{ds:List RecD}(ha:al=[]\/al=[0])(h:Zcg xs al src 0 ds):ds=[]:=by
 cases ds with
 | nil=>rfl
 | cons r rs=>
  obtain⟨to,c,_,hn,_,h2⟩:=(h.2 r).1 (by simp)
  rcases h2 with ⟨w,⟨_,⟨u,⟨hu1,a,hu2,hu3⟩,_⟩,_⟩,_⟩ | ⟨h0,_⟩
  ·have:a=0:=by
    rcases ha with e | e
    ·rw [e] at hu2;cases hu2
    ·rw [e] at hu2;simpa using hu2
   subst this;exact absurd hu1 (hn u hu3)
  ·exact absurd rfl h0
theorem Zjx {xs:List RecD}{al:List Int}{b:Bool}{src:Int}{es:List WayD}(h2:∀ r∈xs,r.kind≠2)(h:Zay (Zbz xs al b src) es):es=[]:=by
 cases es with
 | nil=>rfl
 | cons e es=>
  have h1:=h.2 e.to;rw [Zbw h.1 (List.mem_cons_self)] at h1;obtain⟨_,⟨w,⟨_,a,_,_,_,r,hr,hk,_⟩,_⟩,_⟩:=h1;exact absurd hk (h2 r hr)
structure OneQ (xs:List RecD) (v:Int) (r:RtD):Prop where
 kind:r.kind≠2
 thing:∀ t:Th,ZbV t∈xs->1<=t.c/\t.c<=1000->r.thing=true->t.k=r.to->(Za3 (Zbm xs 0 v) t.o=true\/t.o=v)->(t.f=false->r.kind=3/\r.cost<=(ZaY (Zbm xs 0 v) t.o).cost+t.c)/\(t.f=true->r.kind=4->r.far<=t.c)
theorem ZfN (xs:List RecD)(v o:Int):0<=(ZaY (Zbm xs 0 v) o).cost/\(ZaY (Zbm xs 0 v) o).cost<=6000:=by
 rcases ZbU (Zbm xs 0 v) o with ⟨_,h⟩ | ⟨_,h⟩
 ·have h1:=(ZbA xs 0 v).2 _ (ZaM h).1
  exact⟨h1.1.cost.1,h1.2⟩
 ·have:ZaY (Zbm xs 0 v) o=Zbg:=by
   unfold ZaQ at h;unfold ZaY;rw [h]
   rfl
  rw [this];exact⟨Int.le_refl _,by decide⟩
theorem Zo7 {xs:List RecD}{al:List Int}{v:Int}{l:List RtD}(h2:∀ r∈xs,r.kind≠2)(hm:Zbm xs 0 v≠[]->(0:Int)∈al)(hR:ZcD xs al false v l):∀ r∈l,OneQ xs v r:=by
 obtain⟨ds,es,tw,b1,b2,b3,rfl⟩:=hR;have he:=Zjx h2 b2;subst he;intro r hr;have hrt:(∃ d∈ds,r=⟨false,d.to,1,d.cost,0,d.hops⟩)\/∃ d∈tw,r=rtOf d:=by
  rcases List.mem_append.1 hr with h | h
  ·rcases List.mem_append.1 h with h | h
   ·obtain ⟨d,hd,_,e⟩:=Zeg h
    exact .inl ⟨d,hd,e⟩
   ·obtain ⟨d,hd,_⟩:=Zeg h
    cases hd
  ·obtain ⟨d,hd,e⟩:=List.mem_map.1 h
   exact .inr ⟨d,hd,e.symm⟩
 rcases hrt with ⟨d,_,rfl⟩ | ⟨b,hb,rfl⟩
 ·exact ⟨by simp,fun t _ _ hth=>by simp at hth⟩
 ·refine ⟨?_,fun t htx htc _ htk hway=>?_⟩
  ·have:=(Zhx b).2.2
   omega
  ·have hto:=(Zhx b).2.1
   have hbt:b.to=t.k:=by rw [htk,hto]
   have B:=b3.2 b.to;rw [Zbw b3.1 hb] at B;obtain⟨_,_,hmin,_⟩:=B;obtain⟨o,ho,hoc⟩:∃ o,ZbQ ds [] v t.o=some o/\0<=o.cost/\o.cost<=(ZaY (Zbm xs 0 v) t.o).cost:=by
    by_cases ev:t.o=v
    ·exact ⟨⟨v,0,[]⟩,by unfold ZbQ;rw [if_pos ev],Int.le_refl _,(ZfN xs v t.o).1⟩
    ·have hB:Za3 (Zbm xs 0 v) t.o=true:=by
      rcases hway with h | h
      ·exact h
      ·exact absurd h ev
     rcases ZbU (Zbm xs 0 v) t.o with ⟨_,hf⟩ | ⟨h,_⟩
     ·obtain ⟨hmem,hwto⟩:=ZaM hf
      have h0:(0:Int)∈al:=hm (fun e=>by rw [e] at hmem;cases hmem)
      have hS:Zau xs al v t.o (ZaY (Zbm xs 0 v) t.o):=⟨hwto,0,h0,hmem⟩;have D:=b1.2 t.o;cases e9:ZaQ ds t.o with
      | none=>
       rw [e9] at D;exact absurd hS (D _)
      | some o=>
       rw [e9] at D;obtain⟨_,⟨w9,hw9,hc9⟩,hm9,_⟩:=D;refine⟨o,by unfold ZbQ;rw [if_neg ev,List.append_nil,e9],?_,hm9 _ hS⟩
       rw [<-hc9];exact (ZaI hw9).1.cost.1
     ·rw [hB] at h;cases h
   have hw6:=(ZfN xs v t.o).2;have hle:=hmin ⟨t.k,ZfH t.f t.c o.cost,o.hops⟩ ⟨hbt.symm,ZbV t,htx,rfl,by show t.c<60000;omega,o,ho,rfl⟩
   simp only [] at hle
   unfold ZfH at hle;refine⟨fun hf=>?_,fun hf hk=>?_⟩
   ·rw [hf] at hle
    simp only [if_false,Bool.false_eq_true] at hle
    have hlt:b.cost<4000000000000:=by omega
    unfold rtOf;rw [if_pos hlt];exact⟨rfl,by show b.cost-3000000000000<=_;omega⟩
   ·rw [hf] at hle
    simp only [if_true] at hle
    unfold rtOf at hk |-;by_cases hlt:b.cost<4000000000000
    ·rw [if_pos hlt] at hk;simp at hk
    ·rw [if_neg hlt]
     show (b.cost-4000000000000) / 1000000<=t.c
     omega
theorem Zn1 {ls:List Lk}{ts:List Th}{bs zs:List Bool}{N v:Nat}(hs:ZaE (Zc4 ls ts bs zs N)=true)(hv:1<=v/\v<=6){ds:List WayD}(hw:Zbn (Zc4 ls ts bs zs N) 0 (v:Int) ds)(hne:ds≠[]):(0:Int)∈ZaC ls (v:Int):=by
 have h1:=Zne hs hv hw;have h2:decide (0<ds.length)=true:=by
  cases ds with
  | nil=>exact absurd rfl hne
  | cons _ _=>simp
 rw [h2] at h1;exact (Zme (Zk3 ls ts bs zs N) (show Zfy (Zc4 ls ts bs zs N) 0 (v:Int)=true from h1.symm)).1
end Go.Proofs.YtgdgkgmjpnbbcaaGreat
namespace Go.Proofs.YtgdgkgmjpnbbcaaGreat
open Go.RowKit

theorem Tryz.infoLkO:(Tryz.prog.info? 32).map (fun i=>(i.zero,i.size,i.bytes))=some (some (.agg #[.int .i64 0,.int .i64 0,.int .i64 0,.int .i64 0]),4,32):=by kernel_rfl

theorem Tryz.infoBoO:(Tryz.prog.info? 4).map (fun i=>(i.zero,i.size,i.bytes))=some (some (.bool false),1,1):=by kernel_rfl

theorem ZnP (l:Lk):∀ u∈lkE l,u.oneCell'=true:=by
 intro u hu;simp only [lkE,List.mem_cons,List.not_mem_nil,or_false] at hu
 rcases hu with rfl | rfl | rfl | rfl <;> rfl

structure OnSt (wA W:World) (z:Nat) (N:Int) (v2:Value) (ua oa:Option Addr) (uc oc:Nat) (lk:List Lk) (bl:List Bool):Prop where
 bel:Below wA.heap.size wA W
 box:W.heap[z]? = some (.cells #[.int .i64 N,.slice ua lk.length uc,v2] 27)
 lks:W.ownsRow z 32 4 (.slice ua lk.length uc) lk.length (flat lkE lk)
 bls:W.ownsRow z 4 1 (.slice oa bl.length oc) bl.length (flat blE bl)

section
variable {wA W:World} {z:Nat} {N:Int} {v2:Value} {ua oa:Option Addr} {uc oc:Nat} {lk:List Lk} {bl:List Bool}

theorem OnSt.below {W':World}(st:OnSt wA W z N v2 ua oa uc oc lk bl)(hb:Below W.heap.size W W'):OnSt wA W' z N v2 ua oa uc oc lk bl where
 bel:=st.bel.trans (hb.mono st.bel.size)
 box:=(hb.block _ (Zab st.box)).trans st.box
 lks:=Zaf st.lks hb (Nat.le_refl _)
 bls:=Zaf st.bls hb (Nat.le_refl _)

theorem OnSt.alloc (st:OnSt wA W z N v2 ua oa uc oc lk bl)(o:Obj):OnSt wA (W.alloc o) z N v2 ua oa uc oc lk bl:=st.below ((Below.refl _ _).alloc (Nat.le_refl _) o)

theorem OnSt.drewN (st:OnSt wA W z N v2 ua oa uc oc lk bl)(n:Nat):OnSt wA (W.drewN n) z N v2 ua oa uc oc lk bl:=st.below ⟨rfl,rfl,rfl,Nat.le_refl _,fun _ _=>rfl⟩

theorem Zi6 {w w':World}{b1 b2 s1 s2 n m:Nat}{e1 e2:TypeId}{v1 v2:Value}{xs ys:List Value}(h1:w.ownsRow b1 e1 s1 v1 n xs)(h2:w.ownsRow b2 e2 s2 v2 m ys)(he:e1≠e2)(hg:w.grownBy w' v1.ownBlock):w'.ownsRow b2 e2 s2 v2 m ys:=by
 refine Zao h2 (fun k hk=>hg.block k (h2.lt k hk).2 (fun e=>?_))
 rcases h2.2 with ⟨e9,_⟩ | ⟨g,cap,cur,e9,_,hh,_⟩
 ·rw [e9] at hk;cases hk
 ·rw [e9] at hk
  simp [Value.ownBlock] at hk
  subst hk;exact Zan h1 hh he e

theorem OnSt.link {W':World}{y:Lk}{va:Option Addr}{vc:Nat}(st:OnSt wA W z N v2 ua oa uc oc lk bl)(hz:z=wA.heap.size)(ho:W'.ownsRow z 32 4 (.slice va (lk.length+1) vc) (lk.length+1) (flat lkE (lk++[y])))(hg:W.grownBy W' (Value.slice ua lk.length uc).ownBlock):
  W'.heap[z]? = some (.cells #[.int .i64 N,.slice ua lk.length uc,v2] 27)/\OnSt wA (W'.setCell ⟨z,1,none⟩ (.slice va (lk.length+1) vc)) z N v2 va oa vc oc (lk++[y]) bl:=by
 have hbx:=(hg.block z (Zab st.box) (Zan st.lks st.box (by decide))).trans st.box
 have hbl:=Zi6 st.lks st.bls (by decide) hg
 have hb':Below wA.heap.size wA W':=st.bel.grown hg st.bel.size (fun k hk=>by have:=(st.lks.lt k hk).1;omega)
 have hlen:(lk++[y]).length=lk.length+1:=by simp
 refine⟨hbx,?_,?_,?_,?_⟩
 ·exact hb'.setCell (by show wA.heap.size<=z;omega) _
 ·have h:=heap_setCell_same _ _ 1 _ _ (Value.slice va (lk.length+1) vc) hbx
  rw [hlen]
  simpa using h
 ·rw [hlen]
  exact Zao ho (fun k hk=>heap_setCell_other _ ⟨z,1,none⟩ _ _ (fun e=>by
   have e':k=z:=e;rw [e'] at hk;exact Zan ho hbx (by decide) hk.symm))
 ·exact Zao hbl (fun k hk=>heap_setCell_other _ ⟨z,1,none⟩ _ _ (fun e=>by
   have e':k=z:=e;rw [e'] at hk;exact Zan hbl hbx (by decide) hk.symm))

theorem OnSt.bool {W':World}{b:Bool}{va:Option Addr}{vc:Nat}(st:OnSt wA W z N v2 ua oa uc oc lk bl)(hz:z=wA.heap.size)(ho:W'.ownsRow z 4 1 (.slice va (bl.length+1) vc) (bl.length+1) (flat blE (bl++[b])))(hg:W.grownBy W' (Value.slice oa bl.length oc).ownBlock):
  OnSt wA W' z N v2 ua va uc vc lk (bl++[b]) where
 bel:=st.bel.grown hg st.bel.size (fun k hk=>by have:=(st.bls.lt k hk).1;omega)
 box:=(hg.block z (Zab st.box) (Zan st.bls st.box (by decide))).trans st.box
 lks:=Zi6 st.bls st.lks (by decide) hg
 bls:=by
  have hlen:(bl++[b]).length=bl.length+1:=by simp
  rw [hlen];exact ho
end
end Go.Proofs.YtgdgkgmjpnbbcaaGreat
namespace Go.Proofs.YtgdgkgmjpnbbcaaGreat
open Go.RowKit
set_option linter.unusedSimpArgs false
set_option linter.unusedVariables false
set_option maxRecDepth 100000
set_option maxHeartbeats 8000000
theorem Zix (ls:List Lk)(v:Int):ZaC ls v=Zb7 (fun u=>decide (0<(ZdK ls v u).length)) 0 3:=by
 simp only [ZaC,Zb7,List.filter_cons,List.filter_nil,List.nil_append]
 repeat' split
 all_goals simp_all
theorem ZfK (n:Value)(v tv:Value)(ls:List Lk)(f:Int)(w:World)(hls:ls.length<=1048576)(hv:Zbh w v ls w.heap.size):
  Calls Tryz.prog 8 #[.agg #[n,v,tv],.int .i64 f] w fun e w'=>∃ x,e=.returned x/\w'.ownsRow w.heap.size 3 1 x (ZaC ls f).length (ZbH (ZaC ls f))/\Below w.heap.size w w':=by
 have HV:=hide hv;clear hv;rw [Zix]
 go_enter Tryz.func8,Tryz.ntmps8
 go_wp2
 go_loopw [5,6] (fun x i wr=>∃ k:Nat,k<=3/\i=.int .i64 (0+(k:Int))/\Below w.heap.size w wr/\wr.heap[w.heap.size]? = some (.cells #[n,v,tv] 27)/\wr.ownsRow (w.heap.size+1) 3 1 x (Zb7 (fun u=>decide (0<(ZdK ls f u).length)) 0 k).length (ZbH (Zb7 (fun u=>decide (0<(ZdK ls f u).length)) 0 k))) (fun _ i _=>4-(intOf i).toNat)
 case atStart=>
  refine⟨0,by omega,rfl,Za6 _ _,?_,?_⟩
  ·rw [Below.heap_alloc _ _ _ (show w.heap.size<(w.alloc (.cells #[n,v,tv] 27)).heap.size by simp),heap_alloc_new]
  ·have h0:=World.ownsRow_lit (base:=w.heap.size+1) (w.alloc (.cells #[n,v,tv] 27)) (#[]:Array Value) 0 (by simp) (by decide) (e:=3) (size:=1) rfl
   simpa [Zb7,ZbH] using h0
 case round=>
  obtain⟨k,hk,rfl,hb,hx,hown⟩:=hrel;have c0:wr.cell? ⟨w.heap.size,0,none⟩=some n:=by rw [Zaa hx];rfl
  have c1:wr.cell? ⟨w.heap.size,1,none⟩=some v:=by rw [Zaa hx];rfl
  have c2:wr.cell? ⟨w.heap.size,2,none⟩=some tv:=by rw [Zaa hx];rfl
  have hxl:=Zab hx;have HX:=hide hx;have OW:=hide hown;clear hx hown;by_cases hlt:k<3
  ·go_wp2_with fail
   refine (ZmY n v tv ls f _ wr hls (HV.out.then hb)).mono ?_
   rintro e w1 ⟨x1,rfl,hox,b1⟩;obtain⟨a1,cp1,rfl⟩:=Zf9 hox;clear hox;have hown1:=Zaf OW.out b1 (Nat.le_refl _);have hx1:w1.heap[w.heap.size]? = some (.cells #[n,v,tv] 27):=by rw [b1.block _ hxl];exact HX.out
   have hb1:Below w.heap.size w w1:=hb.trans (b1.mono hb.size);have hz1:=b1.size;have hpl:=ZfE (fun u=>decide (0<(ZdK ls f u).length)) 0 k
   have HX1:=hide hx1;obtain⟨l2,hl20⟩:∃ l2,l2=Zb7 (fun u=>decide (0<(ZdK ls f u).length)) 0 (k+1):=⟨_,rfl⟩
   have HL20:=hide hl20;have hps:Hid (l2=Zb7 (fun u=>decide (0<(ZdK ls f u).length)) 0 k++(if decide (0<(ZdK ls f (0+(k:Int))).length) then [0+(k:Int)] else [])):=hl20
   clear hl20;clear b1 hx1 c0 c1 c2 OW HX;generalize Zb7 (fun u=>decide (0<(ZdK ls f u).length)) 0 k=l at hown1 hpl hps
   rw [Int.zero_add] at *;generalize (ZdK ls f (k:Int)).length=c at hps |-;by_cases hc:0<(c:Int)
   ·have hc':0<c:=by omega
    have hl2:l2=l++[(k:Int)]:=by rw [hps.out];simp [hc']
    clear hc';have HL2:=hide hl2;clear hl2 hps
    go_wp2_with (first
     | (at_builtin;refine Zdv _ rfl _ _ 37 rfl (w.heap.size+1) 3 Tryz.underlying37 Tryz.info3 u5 l (k:Int) rfl (hown1.alloc _) ⟨w1.heap.size,0,none⟩ 1 rfl ?_ (by omega) (by simp;omega) ?_))
    ·rw [add_zero',World.cell?_alloc_at _ _ _ _ rfl];rfl
    intro v' w4 l' hl' hown' hgrow;have hb4:Below w.heap.size w w4:=(hb1.alloc (by omega) _).grown hgrow (by simp;omega) (fun k hk=>by have:=(hown1.lt k hk).1;omega)
    have hx4:w4.heap[w.heap.size]? = some (.cells #[n,v,tv] 27):=by
     rw [hgrow.block _ (by simp;omega) (fun h=>by have:=(hown1.lt _ h.symm).1;omega),Below.heap_alloc _ _ _ (by omega)]
     exact HX1.out
    have e:l'=l2:=by rw [hl'.out,HL2.out]
    subst e;have OW2:=hide hown';have HX4:=hide hx4;clear hgrow hown' hx4 hown1
    go_wp2
    go_roundw
    case rel=>exact ⟨k+1,by omega,by go_num,hb4,HX4.out,by rw [<-HL20.out];exact OW2.out⟩
    case measure=>simp [intOf];omega
   ·have hc':¬0<c:=by omega
    have hl2:l2=l:=by rw [hps.out];simp [hc']
    clear hc';subst hl2;have OW2:=hide hown1;clear hown1 hps
    go_wp2
    go_roundw
    case rel=>exact ⟨k+1,by omega,by go_num,hb1,HX1.out,by rw [<-HL20.out];exact OW2.out⟩
    case measure=>simp [intOf];omega
  ·have hk':k=3:=by omega
   subst hk'
   go_wp2
   go_ret
   exact⟨_,rfl,Zi5 OW.out (by omega),hb⟩
theorem Zj2 (n:Value)(v tv:Value)(ls:List Lk)(f:Int)(w:World)(hls:ls.length<=1048576)(hv:Zbh w v ls w.heap.size):
  Calls Tryz.prog 20 #[.agg #[n,v,tv],.int .i64 f] w fun e w'=>e=.returned (.bool (ZeS ls f))/\Below w.heap.size w w':=by
 have HV:=hide hv;clear hv
 go_enter Tryz.func20,Tryz.ntmps20
 go_wp2_with fail
 refine (ZfK n v tv ls f _ hls (HV.out.then ((Below.refl _ _).alloc (Nat.le_refl _) _))).mono ?_
 rintro e w1 ⟨x,rfl,hox,b1⟩;have hb1:Below w.heap.size w w1:=((Below.refl w.heap.size w).alloc (Nat.le_refl _) _).trans (b1.mono (by simp))
 obtain⟨zs,hzs⟩:∃ zs,zs=ZaC ls f:=⟨_,rfl⟩;have hB:ZeS ls f=(decide (1<zs.length)&&(zs.head? == some 0)):=by rw [hzs];rfl
 have HB:=hide hB;rw [<-hzs] at hox;clear hB hzs b1;by_cases h1:1<zs.length
 ·obtain ⟨g,cap,rfl,hg,hl⟩:=ZfD hox (by omega)
  obtain⟨z,zr,rfl⟩:∃ z zr,zs=z::zr:=by
   cases zs with
   | nil=>simp at h1
   | cons z zr=>exact ⟨z,zr,rfl⟩
  have c0:w1.cell? ⟨g,0,none⟩=some (.int .i64 z):=by rw [hox.cellAt 0 (by omega)];rfl
  have hb:(decide (1<(z::zr).length)&&((z::zr).head? == some 0))=(z==0):=by
   rw [decide_eq_true h1];simp
  have HB2:Hid (ZeS ls f=(z==0)):=HB.out.trans hb;generalize (z::zr).length=m at hox h1 hl |-;have h1':(1:Int)<(m:Int):=by omega
  have h0':(0:Int)<(m:Int):=by omega
  clear hox hb HB
  go_wp2
  go_ret
  exact⟨by rw [HB2.out];rfl,hb1⟩
 ·obtain ⟨a,cap,rfl⟩:=Zf9 hox
  have hb:(decide (1<zs.length)&&(zs.head? == some 0))=false:=by rw [decide_eq_false h1];rfl
  have HB2:Hid (ZeS ls f=false):=HB.out.trans hb;have h1':¬(1:Int)<(zs.length:Int):=by omega
  clear hox hb HB
  go_wp2
  go_ret
  exact⟨by rw [HB2.out];rfl,hb1⟩
end Go.Proofs.YtgdgkgmjpnbbcaaGreat
