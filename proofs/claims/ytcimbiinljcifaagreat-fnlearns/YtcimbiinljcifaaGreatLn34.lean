/-
  IdealO ICost HeardI
-/
import Derived.Test.YtcimbiinljcifaaGreatLn31
import Derived.Test.YtcimbiinljcifaaGreatLn32
import Derived.Test.YtcimbiinljcifaaGreatLn1
import Derived.Deep.RegionHeld3
import Derived.Laws.StructEq
import Derived.Test.YtcimbiinljcifaaGreatLn6
import Derived.Test.YtcimbiinljcifaaGreatLn8
namespace Go.Proofs.YtcimbiinljcifaaGreat
open Go.RowKit
set_option linter.unusedSimpArgs false
set_option linter.unusedVariables false
set_option maxRecDepth 100000
set_option maxHeartbeats 8000000
theorem ZiG {rs:List RecD}(h:Asc rs)(r:RecD):Asc (putD rs r):=by
 unfold putD Asc;rw [List.append_assoc,List.pairwise_append];refine⟨List.Pairwise.filter _ h,?_,?_⟩
 ·rw [List.pairwise_append]
  refine⟨by simp,List.Pairwise.filter _ h,fun a ha b hb=>?_⟩
  have:a=r:=by simpa using ha
  subst this;exact (List.mem_filter.1 hb).2
 ·intro a ha b hb
  have h1:=(List.mem_filter.1 ha).2
  rcases List.mem_append.1 hb with h2 | h2
  ·have:b=r:=by simpa using h2
   subst this;exact h1
  ·exact ZcG h1 (List.mem_filter.1 h2).2
theorem ZiQ {xs:List RecD}{r x:RecD}(h:x∈putD xs r):x∈xs\/x=r:=by
 unfold putD at h;simp only [List.append_assoc,List.mem_append,List.mem_filter,List.mem_singleton] at h
 rcases h with h | h | h
 ·exact .inl h.1
 ·exact .inr h
 ·exact .inl h.1
def cntR (p:RecD->Bool)(xs:List RecD):Nat:=(xs.filter p).length
theorem Ze0 (p:RecD->Bool)(a b:List RecD):cntR p (a++b)=cntR p a+cntR p b:=by simp [cntR]
theorem ZkX (p f g:RecD->Bool)(hfg:∀ x,f x=true->g x=false)(xs:List RecD):cntR p (xs.filter f)+cntR p (xs.filter g)<=cntR p xs:=by
 induction xs with
 | nil=>simp [cntR]
 | cons x xs ih=>
  have h:=hfg x;unfold cntR at *;simp only [List.filter_cons]
  cases hf:f x <;> cases hg:g x <;> cases hp:p x <;> simp_all <;> omega
theorem ZgC (p:RecD->Bool)(xs:List RecD)(r:RecD):cntR p (putD xs r)<=cntR p xs+(if p r then 1 else 0):=by
 unfold putD;rw [Ze0,Ze0];have h:=ZkX p (fun x=>Zan x r) (fun x=>Zan r x) (fun x hx=>ZbY hx) xs
 have h1:cntR p [r]=if p r then 1 else 0:=by unfold cntR;cases hp:p r <;> simp [hp]
 omega
theorem Ze1 (p f:RecD->Bool)(xs:List RecD):cntR p (xs.filter f)<=cntR p xs:=by
 unfold cntR;rw [List.filter_filter]
 induction xs with
 | nil=>simp
 | cons x xs ih=>
  simp only [List.filter_cons]
  cases hf:f x <;> cases hp:p x <;> simp_all
  omega
theorem Zmb (p:RecD->Bool)(xs:List RecD):cntR p xs<=xs.length:=List.length_filter_le _ _
theorem Ze2 {p:RecD->Bool}{xs:List RecD}(h:∀ x∈xs,p x=false):cntR p xs=0:=by
 unfold cntR;rw [List.length_eq_zero_iff,List.filter_eq_nil_iff];intro a ha;rw [h a ha];decide
def hisR (u:Int)(r:RecD):Bool:=r.kind==2&&r.owner==u
def ownR (r:RecD):Bool:=r.kind != 2
theorem Zgn:∀ {ts:List RecD}{xs:List RecD},Asc xs->(∀ r∈xs,Zas r=true)->(∀ r∈ts,Zas (seq1 r)=true)->Asc (Zdt xs ts)/\∀ r∈Zdt xs ts,Zas r=true
 | [],xs,h1,h2,_=>⟨h1,h2⟩
 | t::ts,xs,h1,h2,h3=>by
  have:=Zgn (ts:=ts) (xs:=putD xs (seq1 t)) (ZiG h1 _) (fun r hr=>by
   rcases ZiQ hr with h | h
   ·exact h2 r h
   ·rw [h];exact h3 t (by simp)) (fun r hr=>h3 r (List.mem_cons_of_mem _ hr))
  exact this
theorem ZgD (p:RecD->Bool)(hp:∀ r,p (seq1 r)=p r):∀ (ts xs:List RecD),cntR p (Zdt xs ts)<=cntR p xs+cntR p ts
 | [],xs=>by simp [Zdt,cntR]
 | t::ts,xs=>by
  have h:=ZgD p hp ts (putD xs (seq1 t));have h1:=ZgC p xs (seq1 t);have h2:cntR p (t::ts)=(if p t then 1 else 0)+cntR p ts:=by unfold cntR;cases hp':p t <;> simp [hp'] <;> omega
  rw [hp] at h1;have h3:Zdt xs (t::ts)=Zdt (putD xs (seq1 t)) ts:=rfl;rw [h3];omega
theorem Zfv (r:RecD):(seq1 r).kind=r.kind/\(seq1 r).owner=r.owner:=by unfold seq1;split <;> exact ⟨rfl,rfl⟩
theorem Zk3 (u:Int)(r:RecD):hisR u (seq1 r)=hisR u r:=by unfold hisR;rw [(Zfv r).1,(Zfv r).2]
theorem Zlz (r:RecD):ownR (seq1 r)=ownR r:=by unfold ownR;rw [(Zfv r).1]
theorem Zlc {xs:List RecD}{al:List Int}{src a:Int}{r:RecD}(h:r∈tolD xs al src a):∃ to c,r=Zca a src to c/\ZcR xs al src a to c:=by
 unfold tolD at h
 split at h
 ·rename_i hx
  exact ((Classical.choose_spec hx).2 r).1 h
 ·cases h
theorem ZlM (xs:List RecD)(al:List Int)(src a:Int):(tolD xs al src a).length<=6:=by
 unfold tolD
 split
 ·rename_i hx
  exact (Classical.choose_spec hx).tot.1
 ·simp
theorem ZdE {xs:List RecD}{al bl:List Int}{src:Int}{r:RecD}(h:r∈Zbg xs al src bl):∃ a to c,a∈bl/\r=Zca a src to c/\ZcR xs al src a to c:=by
 unfold Zbg at h;obtain⟨a,ha,hr⟩:=List.mem_flatMap.1 h;obtain⟨to,c,h1,h2⟩:=Zlc hr;exact⟨a,to,c,ha,h1,h2⟩
theorem ZeV (xs:List RecD)(al:List Int)(src:Int):∀ bl:List Int,(Zbg xs al src bl).length<=6*bl.length
 | []=>by simp [Zbg]
 | a::bl=>by
  have h:=ZeV xs al src bl;have h1:=ZlM xs al src a;have h2:Zbg xs al src (a::bl)=tolD xs al src a++Zbg xs al src bl:=rfl;rw [h2,List.length_append,List.length_cons];omega
theorem ZkJ {xs:List RecD}{al:List Int}{src a to c:Int}(h:ZcR xs al src a to c):0<=c/\c<=60000:=by
 obtain⟨_,_,⟨w,h1,e⟩ | ⟨_,w,h1,e⟩⟩:=h
 ·rw [e];exact (ZdS h1 (fun d h=>Zbk h)).1.cost
 ·rw [e];exact (ZdS h1 (fun d h=>ZbK h)).1.cost
theorem Zms {a node to c:Int}(ha:0<=a/\a<=2)(hn:1<=node/\node<=6)(ht:1<=to/\to<=6)(hc:0<=c/\c<=60000):Zas (seq1 (Zca a node to c))=true:=by
 simp [Zas,seq1,Zca,inB]
 omega
theorem Zf1 {ls:List Lk}{v a:Int}(h:a∈ZaO ls v):0<=a/\a<=2:=by
 unfold ZaO at h;have:=(List.mem_filter.1 h).1;simp at this
 omega
structure IdOk (N:Nat) (xs:List RecD):Prop where
 asc:Asc xs
 ok:∀ r∈xs,Zas r=true
 own:cntR ownR xs<=22
 his:∀ u,cntR (hisR u) xs<=18
theorem IdOk.bey {N:Nat}{xs:List RecD}(h:IdOk N xs){ls:List Lk}{node:Int}(hn:1<=node/\node<=6):IdOk N (beyD xs (ZaO ls node) node):=by
 have hal:=Zdn ls node;have hlen:=ZeV xs (ZaO ls node) node (ZaO ls node);obtain⟨k1,k2⟩:=Zgn (ts:=Zbg xs (ZaO ls node) node (ZaO ls node)) (xs:=xs.filter (ZbN node)) (List.Pairwise.filter _ h.asc) (fun r hr=>h.ok r (List.mem_filter.1 hr).1) (fun r hr=>by
  obtain⟨a,to,c,ha,rfl,ht⟩:=ZdE hr;exact Zms (Zf1 ha) hn (Zcq ht) (ZkJ ht))
 refine⟨k1,k2,?_,fun u=>?_⟩
 ·have h1:=ZgD ownR Zlz (Zbg xs (ZaO ls node) node (ZaO ls node)) (xs.filter (ZbN node))
  have h2:=Ze1 ownR (ZbN node) xs;have h3:cntR ownR (Zbg xs (ZaO ls node) node (ZaO ls node))=0:=Ze2 (fun r hr=>by
   obtain⟨a,to,c,ha,rfl,ht⟩:=ZdE hr
   rfl)
  have h4:=h.own;unfold beyD;omega
 ·have h1:=ZgD (hisR u) (Zk3 u) (Zbg xs (ZaO ls node) node (ZaO ls node)) (xs.filter (ZbN node))
  have h2:=Ze1 (hisR u) (ZbN node) xs;unfold beyD;by_cases e:u=node
  ·have h3:cntR (hisR u) (xs.filter (ZbN node))=0:=Ze2 (fun r hr=>by
    have:=(List.mem_filter.1 hr).2;subst e;unfold ZbN at this;unfold hisR;simp only [Bool.or_eq_true,bne_iff_ne,ne_eq] at this
    simp only [Bool.and_eq_false_iff,beq_eq_false_iff_ne,ne_eq]
    exact this)
   have h4:=Zmb (hisR u) (Zbg xs (ZaO ls node) node (ZaO ls node));omega
  ·have h3:cntR (hisR u) (Zbg xs (ZaO ls node) node (ZaO ls node))=0:=Ze2 (fun r hr=>by
    obtain⟨a,to,c,ha,rfl,ht⟩:=ZdE hr;simp [hisR,Zca]
    exact fun h=>e h.symm)
   have h4:=h.his u;omega
theorem ZlX {N:Nat}{ls:List Lk}{zs:List Bool}{xs:List RecD}(h:IdOk N xs):∀ k,k<=6->IdOk N (idC ls zs xs k)
 | 0,_=>h
 | k+1,hk=>by
  have ih:=ZlX (ls:=ls) (zs:=zs) h k (by omega)
  unfold idC
  split
  ·exact ih.bey (by omega)
  ·exact ih
theorem ZlY {N:Nat}{ls:List Lk}{zs:List Bool}{xs:List RecD}(hN:N<=6)(h:IdOk N xs):∀ r,IdOk N (idR ls zs N xs r)
 | 0=>h
 | r+1=>ZlX (ZlY hN h r) N hN
theorem Zk6 {N:Nat}{xs:List RecD}(h:IdOk N xs):xs.length<=130:=by
 have key:∀ ys:List RecD,(∀ r∈ys,Zas r=true)->ys.length<=cntR ownR ys+(cntR (hisR 1) ys+cntR (hisR 2) ys+cntR (hisR 3) ys+cntR (hisR 4) ys+cntR (hisR 5) ys+cntR (hisR 6) ys):=by
  intro ys
  induction ys with
  | nil=>intro _;simp
  | cons y ys ih=>
   intro hy;have h1:=ih (fun r hr=>hy r (List.mem_cons_of_mem _ hr))
   have h2:=hy y (by simp)
   have ho:1<=y.owner/\y.owner<=6:=by
    simp only [Zas,Bool.and_eq_true,inB,decide_eq_true_eq] at h2
    exact h2.1.1
   have hc:∀ p:RecD->Bool,cntR p (y::ys)=(if p y then 1 else 0)+cntR p ys:=by
    intro p;unfold cntR;cases hp:p y <;> simp [hp] <;> omega
   simp only [hc,List.length_cons]
   by_cases hk:y.kind=2
   ·have hcase:y.owner=1\/y.owner=2\/y.owner=3\/y.owner=4\/y.owner=5\/y.owner=6:=by omega
    rcases hcase with e | e | e | e | e | e <;> simp [hisR,ownR,hk,e] <;> omega
   ·have:ownR y=true:=by simp [ownR,hk]
    rw [this];simp only [if_true]
    omega
 have h0:=key xs h.ok;have h1:=h.own;have h2:=h.his;have a1:=h2 1;have a2:=h2 2;have a3:=h2 3;have a4:=h2 4;have a5:=h2 5;have a6:=h2 6;omega
theorem Zjg {N:Nat}{xs:List RecD}(h:IdOk N xs):Zaw xs=true:=by
 have hl:=Zk6 h;unfold Zaw;rw [Zgv h.asc,decide_eq_true (show xs.length<=150 by omega)]
 simp only [Bool.true_and,Bool.and_true]
 refine ZaG (fun j hj=>?_)
 rw [Zbh (List.getElem?_eq_getElem hj)];exact h.ok _ (List.getElem_mem hj)
theorem okL_of {n:Int}{ls:List Lk}(h:ZbV n ls=true):∀ l∈ls,ZaY n l=true:=by
 intro l hl;unfold ZbV at h;simp only [Bool.and_eq_true] at h
 obtain⟨i,hi,e⟩:=List.mem_iff_getElem.1 hl;have h1:=List.all_eq_true.1 h.1.2 i (List.mem_range.2 hi);rw [Zbh (List.getElem?_eq_getElem hi),e] at h1;exact h1
theorem Zl0 {n:Int}{ts:List Th}(h:Zbn n ts=true):∀ t∈ts,Zcw n t=true:=by
 intro l hl;unfold Zbn at h;simp only [Bool.and_eq_true] at h
 obtain⟨i,hi,e⟩:=List.mem_iff_getElem.1 hl;have h1:=List.all_eq_true.1 h.1.2 i (List.mem_range.2 hi);rw [Zbh (List.getElem?_eq_getElem hi),e] at h1;exact h1
theorem Zls {n:Int}{ls:List Lk}{bs:List Bool}(h:∀ l∈ls,ZaY n l=true){f t r:Int}(h0:0<Zdi ls bs f t r):1<=Zdi ls bs f t r/\Zdi ls bs f t r<=1000/\f≠t:=by
 unfold Zdi at *;cases hf:(ls.zip bs).find? (ZfL f t r) with
 | none=>rw [hf] at h0;simp at h0
 | some p=>
  rw [hf] at h0;simp only [Option.map_some,Option.getD_some] at h0 |-
  have hm:=List.mem_of_find?_eq_some hf;have hp:=List.find?_some hf;have hl:=h p.1 (List.of_mem_zip hm).1;simp only [ZaY,inB,Bool.and_eq_true,decide_eq_true_eq] at hl
  simp only [ZfL,Zb7,Bool.and_eq_true,Bool.or_eq_true,beq_iff_eq] at hp
  omega
theorem ZgQ {ls:List Lk}{bs zs:List Bool}{v a:Int}:∀ {k:Nat} {x:Nr},x∈ZbI ls bs zs v a k->1<=x.to/\x.to<=(k:Int)/\0<x.c/\x.c=Zdi ls bs v x.to a
 | 0,x,h=>by simp [ZbI] at h
 | k+1,x,h=>by
  unfold ZbI at h
  rcases List.mem_append.1 h with h1 | h1
  ·have:=ZgQ h1
   refine⟨this.1,by omega,this.2.2⟩
  ·split at h1
   ·rename_i hc
    simp only [Bool.and_eq_true,decide_eq_true_eq] at hc
    have e:x=⟨(k:Int)+1,Zdi ls bs v ((k:Int)+1) a⟩:=by simpa using h1
    subst e;exact⟨by show (1:Int)<=(k:Int)+1;omega,by show (k:Int)+1<=((k+1:Nat):Int);omega,hc.1,rfl⟩
   ·cases h1
theorem Zht (ls:List Lk)(bs zs:List Bool)(v a:Int):∀ k,(ZbI ls bs zs v a k).Pairwise (fun x y=>x.to<y.to)
 | 0=>by simp [ZbI]
 | k+1=>by
  unfold ZbI;rw [List.pairwise_append];refine⟨Zht ls bs zs v a k,?_,fun x hx y hy=>?_⟩
  ·split <;> simp
  ·have h1:=ZgQ hx
   split at hy
   ·have e:y=⟨(k:Int)+1,Zdi ls bs v ((k:Int)+1) a⟩:=by simpa using hy
    subst e
    show x.to<(k:Int)+1
    omega
   ·cases hy
theorem Zln {n:Int}{ls:List Lk}{bs zs:List Bool}(h:∀ l∈ls,ZaY n l=true)(v a:Int){N:Nat}(hN:N<=6):Za1 v (ZbI ls bs zs v a N)=true:=by
 unfold Za1;rw [Bool.and_eq_true];refine⟨ZaG (fun j hj=>?_),ZaG (fun j hj=>?_)⟩
 ·rw [Zbh (List.getElem?_eq_getElem hj)]
  have h1:=ZgQ (List.getElem_mem hj);have h2:=Zls h (by rw [<-h1.2.2.2];exact h1.2.2.1)
  rw [<-h1.2.2.2] at h2;simp only [ZbC,inB,Bool.and_eq_true,decide_eq_true_eq,Bool.not_eq_true',beq_eq_false_iff_ne,ne_eq]
  refine⟨⟨⟨h1.1,by omega⟩,fun e=>h2.2.2 e.symm⟩,h2.1,h2.2.1⟩
 ·cases j with
  | zero=>rfl
  | succ j=>
   rw [Za6 (List.getElem?_eq_getElem (by omega)) (List.getElem?_eq_getElem hj)]
   have:=List.pairwise_iff_getElem.1 (Zht ls bs zs v a N) j (j+1) (by omega) hj (by omega)
   refine decide_eq_true ?_
   show (ZbI ls bs zs v a N)[j].to-(ZbI ls bs zs v a N)[j+1].to<0
   omega
theorem Zmm {v a:Int}{near:List Nr}(hv:1<=v/\v<=6)(ha:0<=a/\a<=2)(hn:Za1 v near=true):Zas (ZbM v a near)=true:=by
 simp [Zas,ZbM,inB,hv.1,hv.2,ha.1,ha.2,hn]
theorem ZlL {t:Th}(ho:1<=t.o/\t.o<=6)(hk:1<=t.k/\t.k<=9)(hc:1<=t.c/\t.c<=1000):Zas (Zc9 t)=true:=by
 simp [Zas,Zc9,inB,ho.1,ho.2,hk.1,hk.2,hc.1,hc.2]
structure IdOwn (c:Nat) (xs:List RecD):Prop where
 asc:Asc xs
 ok:∀ r∈xs,Zas r=true
 own:cntR ownR xs<=c
 his:∀ u,cntR (hisR u) xs=0
theorem IdOwn.put {c:Nat}{xs:List RecD}(h:IdOwn c xs){r:RecD}(hr:Zas r=true)(hk:r.kind≠2):IdOwn (c+1) (putD xs r) where
 asc:=ZiG h.asc r
 ok:=fun x hx=>by
  rcases ZiQ hx with h1 | h1
  ·exact h.ok x h1
  ·rw [h1];exact hr
 own:=by
  have:=ZgC ownR xs r;have h1:=h.own
  split at this <;> omega
 his:=fun u=>by
  have:=ZgC (hisR u) xs r;have h1:=h.his u;have h2:hisR u r=false:=by simp [hisR,hk]
  rw [h2] at this;simp at this
  omega
theorem IdOwn.more {c d:Nat}{xs:List RecD}(h:IdOwn c xs)(hd:c<=d):IdOwn d xs:=⟨h.asc,h.ok,Nat.le_trans h.own hd,h.his⟩
theorem Zg9 {n:Int}{ls:List Lk}{bs zs:List Bool}{N:Nat}{v:Int}{xs:List RecD}{c:Nat}(hl:∀ l∈ls,ZaY n l=true)(hN:N<=6)(hv:1<=v/\v<=6)(h:IdOwn c xs):∀ j,j<=(ZaO ls v).length->IdOwn (c+j) (ZfI ls bs zs N v (ZaO ls v) xs j)
 | 0,_=>h
 | j+1,hj=>by
  have ih:=Zg9 (bs:=bs) (zs:=zs) hl hN hv h j (by omega)
  have hm:(ZaO ls v).getD j 0∈ZaO ls v:=by
   have:(ZaO ls v).getD j 0=(ZaO ls v)[j]'(by omega):=by simp [List.getD,List.getElem?_eq_getElem (show j<(ZaO ls v).length by omega)]
   rw [this];exact List.getElem_mem _
  have ha:=Zf1 hm;refine ih.put ?_ (by simp [ZbM])
  obtain⟨q,hq⟩:∃ q,q=(ZaO ls v).getD j 0:=⟨_,rfl⟩;rw [<-hq] at ha |-;have hn:=Zln (bs:=bs) (zs:=zs) hl v q hN;exact Zmm hv ha hn
theorem Zj6 {n:Int}{ls:List Lk}{bs zs:List Bool}{N:Nat}(hl:∀ l∈ls,ZaY n l=true)(hN:N<=6):∀ k,k<=6->IdOwn (3*k) (idA ls bs zs N k)
 | 0,_ => { asc:=List.Pairwise.nil,ok:=fun r hr=>by simp [idA] at hr,own:=by simp [cntR,idA],his:=fun u=>by simp [cntR,idA] }
 | k+1,hk=>by
  have ih:=Zj6 (bs:=bs) (zs:=zs) hl hN k (by omega)
  have hal:=Zdn ls ((k:Int)+1);unfold idA
  split
  ·exact (Zg9 hl hN (by omega) ih _ (Nat.le_refl _)).more (by omega)
  ·exact ih.more (by omega)
theorem Zj7 {n:Int}{ts:List Th}{zs:List Bool}{xs:List RecD}{c:Nat}(hn:n<=6)(ht:∀ t∈ts,Zcw n t=true)(h:IdOwn c xs):∀ k,IdOwn (c+k) (idB ts zs xs k)
 | 0=>h
 | k+1=>by
  have ih:=Zj7 (zs:=zs) hn ht h k;unfold idB
  split
  ·rename_i t hk
   split
   ·refine ih.put ?_ (by simp [Zc9])
    have h1:=ht t (List.mem_of_getElem? hk);simp only [Zcw,inB,Bool.and_eq_true,decide_eq_true_eq] at h1
    exact ZlL ⟨h1.1.2.1,by omega⟩ h1.1.1 h1.2
   ·exact ih.more (by omega)
  ·exact ih.more (by omega)
theorem Zk7 {ls:List Lk}{ts:List Th}{bs zs:List Bool}{N:Nat}(hok:ZaV ⟨(N:Int),ls,ts⟩=true):IdOk N (ZfY ls ts bs zs N):=by
 simp only [ZaV,Bool.and_eq_true] at hok
 obtain⟨⟨h1,h2⟩,h3⟩:=hok;have hN:N<=6:=by simp only [inB,Bool.and_eq_true,decide_eq_true_eq] at h1;omega
 have hl:=okL_of h2;have ht:=Zl0 h3;have htl:ts.length<=4:=by
  unfold Zbn at h3;simp only [Bool.and_eq_true,decide_eq_true_eq] at h3
  exact h3.1.1
 have hA:=Zj6 (bs:=bs) (zs:=zs) hl hN N hN;have hB:=Zj7 (zs:=zs) (by omega) ht hA ts.length
 unfold ZfY;refine ZlY hN ⟨hB.asc,hB.ok,?_,fun u=>by rw [hB.his u];omega⟩ 3
 have:=hB.own;omega
theorem Zh5 {ls:List Lk}{ts:List Th}{bs zs:List Bool}{N:Nat}(hok:ZaV ⟨(N:Int),ls,ts⟩=true):Zaw (ZfY ls ts bs zs N)=true:=Zjg (Zk7 hok)
def Zma (l:Lk):Value:=.agg #[.int .i64 l.a,.int .i64 l.b,.int .i64 l.c,.int .i64 l.r,.int .i64 l.b,.int .i64 l.a,.int .i64 l.c,.int .i64 l.r]
theorem ZkV (l:Lk)(w:World):Calls Tryz.prog 117 #[lkV l] w fun e w'=>e=.returned (Zma l)/\Below w.heap.size w w':=by
 obtain⟨a,b,c,r⟩:=l;unfold lkV Zma
 go_enter Tryz.func117,Tryz.ntmps117
 go_wp2
 go_returns
 exact⟨rfl,ZeX _ _ _⟩
theorem Zks (w:World)(x0 x1 x2 x3 x4 x5 x6 x7:Value):(Instr.index 152 (.agg #[x0,x1,x2,x3,x4,x5,x6,x7]) (.int .i64 0)).run Tryz.prog w=.ok (.agg #[x0,x1,x2,x3]) w:=by
 rfl
theorem Zkt (w:World)(x0 x1 x2 x3 x4 x5 x6 x7:Value):(Instr.index 152 (.agg #[x0,x1,x2,x3,x4,x5,x6,x7]) (.int .i64 1)).run Tryz.prog w=.ok (.agg #[x4,x5,x6,x7]) w:=by
 rfl
theorem ZiZ (w:World)(a b c d a' b' c' d':Int):(binOp .eql 127 (.agg #[.int .i64 a,.int .i64 b,.int .i64 c,.int .i64 d]) (.agg #[.int .i64 a',.int .i64 b',.int .i64 c',.int .i64 d'])).run Tryz.prog w=.ok (.bool (decide (a=a'/\b=b'/\c=c'/\d=d'))) w:=by
 go_simp
 by_cases h1:a=a' <;> by_cases h2:b=b' <;> by_cases h3:c=c' <;> by_cases h4:d=d' <;> simp [h1,h2,h3,h4]
theorem Zi0 {f t r la lb lc lr:Int}(h:la=f/\lb=t/\lr=r)(W:World):(binOp .eql 127 (.agg #[.int .i64 la,.int .i64 lb,.int .i64 lc,.int .i64 lr]) (.agg #[.int .i64 f,.int .i64 t,.int .i64 lc,.int .i64 r])).run Tryz.prog W=.ok (.bool true) W:=by
 rw [ZiZ,decide_eq_true ⟨h.1,h.2.1,rfl,h.2.2⟩]
theorem Zku {f t r la lb lc lr:Int}(h:¬(la=f/\lb=t/\lr=r))(W:World):(binOp .eql 127 (.agg #[.int .i64 la,.int .i64 lb,.int .i64 lc,.int .i64 lr]) (.agg #[.int .i64 f,.int .i64 t,.int .i64 lc,.int .i64 r])).run Tryz.prog W=.ok (.bool false) W:=by
 rw [ZiZ,decide_eq_false (fun g=>h ⟨g.1,g.2.1,g.2.2.2⟩)]
theorem Zj5 (n:Value)(v tv:Value)(ls:List Lk)(f t r:Int)(w:World)(hls:ls.length<=1048576)(hv:Za0 w v ls w.heap.size):
  Calls Tryz.prog 78 #[.agg #[n,v,tv],.int .i64 f,.int .i64 t,.int .i64 r] w fun e w'=>e=.returned (.int .i64 (Zci ls f t r))/\Below w.heap.size w w':=by
 obtain⟨a,cap,rfl⟩:∃ a cap,v=.slice a ls.length cap:=by obtain ⟨a,cap,h,_⟩:=hv;exact⟨a,cap,h⟩
 have HV:=hide hv;clear hv
 go_enter Tryz.func78,Tryz.ntmps78
 go_wp2
 go_loopw [17] (fun i wr=>∃ k:Nat,k<=ls.length/\i=.int .i64 k/\(∀ j,j<k->∀ l,ls[j]? = some l->Zb7 f t r l=false)/\Below w.heap.size w wr) (fun i _=>ls.length-(intOf i).toNat)
 case atStart=>exact ⟨0,by omega,rfl,by omega,(Below.refl _ _).alloc (Nat.le_refl _) _⟩
 case round=>
  obtain⟨k,hk,rfl,hno,hb⟩:=hrel;have HNO:=hide hno;clear hno;by_cases hlt:k<ls.length
  ·obtain ⟨l,hl⟩:∃ l,ls[k]? = some l:=⟨ls[k],List.getElem?_eq_getElem hlt⟩
   obtain⟨b,off,cap',hve,hbb,c0,c1,c2,c3⟩:=HV.out.cells k l hl;cases hve
   rw [<-hb.cell (p:=⟨b,off+k*4,none⟩) hbb] at c0;rw [<-hb.cell (p:=⟨b,off+k*4+1,none⟩) hbb] at c1;rw [<-hb.cell (p:=⟨b,off+k*4+2,none⟩) hbb] at c2;rw [<-hb.cell (p:=⟨b,off+k*4+3,none⟩) hbb] at c3;have HL:=hide hl;have hbo:=ZkV l;clear hl;obtain⟨la,lb,lc,lr⟩:=l;unfold Zma lkV at hbo;simp only [] at hbo
   have HBO:=hide hbo;clear hbo
   go_wp2_with fail
   refine (HBO.out _).mono ?_
   rintro e w1 ⟨rfl,b1⟩;have hp:w1.heap[wr.heap.size]? = some (.cells #[.int .i64 la,.int .i64 lb,.int .i64 lc,.int .i64 lr] 127):=by
    rw [b1.block _ (by simp;omega),Below.heap_alloc _ _ _ (by simp),heap_alloc_new]
   have hq:w1.heap[wr.heap.size+1]? = some (.cells #[.int .i64 f,.int .i64 t,.int .i64 lc,.int .i64 r] 127):=by
    rw [b1.block _ (by simp)]
    have:=heap_alloc_new (wr.alloc (.cells #[.int .i64 la,.int .i64 lb,.int .i64 lc,.int .i64 lr] 127)) (.cells #[.int .i64 f,.int .i64 t,.int .i64 lc,.int .i64 r] 127)
    simpa using this
   have hbr:=hb.size;have B1:Below w.heap.size w w1:=(hb.trans ((ZaW _ _).mono hb.size)).trans (b1.mono (by simp;omega))
   have HP:=hide hp;have HQ:=hide hq;clear hp hq b1 c0 c1 c2 c3 hb;obtain⟨z,hz⟩:∃ z,z=wr.heap.size:=⟨_,rfl⟩;rw [<-hz] at HP HQ hbr |-;clear hz wr
   go_wp2
   go_loopw [29] (fun i wr=>∃ j:Nat,j<=2/\i=.int .i64 j/\(1<=j->¬(la=f/\lb=t/\lr=r))/\(2<=j->¬(lb=f/\la=t/\lr=r))/\Below w.heap.size w wr/\wr.heap[z]? = some (.cells #[.int .i64 la,.int .i64 lb,.int .i64 lc,.int .i64 lr] 127)/\wr.heap[z+1]? = some (.cells #[.int .i64 f,.int .i64 t,.int .i64 lc,.int .i64 r] 127)) (fun i _=>2-(intOf i).toNat)
   case atStart=>exact ⟨0,by omega,rfl,by omega,by omega,B1,HP.out,HQ.out⟩
   case round=>
    obtain⟨j,hj,rfl,hn1,hn2,hb,hp,hq⟩:=hrel;have HN1:=hide hn1;have HN2:=hide hn2;have p0:=Zaa hp 0;have p1:=Zaa hp 1;have p2:=Zaa hp 2;have p3:=Zaa hp 3;have q0:=Zaa hq 0;have q1:=Zaa hq 1;have q2:=Zaa hq 2;have q3:=Zaa hq 3;simp at p0 p1 p2 p3 q0 q1 q2 q3
    have hz1:=Zab hq;have hz0:=Zab hp;have HP:=hide hp;have HQ:=hide hq;clear hn1 hn2 hp hq;obtain rfl | rfl | rfl:j=0\/j=1\/j=2:=by omega
    ·have i0:=fun W=>Zks W (.int .i64 la) (.int .i64 lb) (.int .i64 lc) (.int .i64 lr) (.int .i64 lb) (.int .i64 la) (.int .i64 lc) (.int .i64 lr)
     by_cases h:la=f/\lb=t/\lr=r
     ·have e0:=Zi0 (lc:=lc) h
      have hh:Zb7 f t r ⟨la,lb,lc,lr⟩=true:=by simp [Zb7,h.1,h.2.1,h.2.2]
      have HH:=hide hh;clear hh h
      go_wp2
      go_ret
      exact⟨ZdJ (ZgF HNO.out HL.out HH.out).symm,hb.alloc hb.size _⟩
     ·have e0:=Zku (lc:=lc) h
      have HH:=hide h;clear h
      go_wp2
      go_roundw
      case rel=>exact ⟨1,by omega,by go_num,fun _=>HH.out,by omega,hb.alloc hb.size _,by rw [Below.heap_alloc _ _ _ hz0];exact HP.out,by rw [Below.heap_alloc _ _ _ hz1];exact HQ.out⟩
      case measure=>simp [intOf]
    ·have i0:=fun W=>Zkt W (.int .i64 la) (.int .i64 lb) (.int .i64 lc) (.int .i64 lr) (.int .i64 lb) (.int .i64 la) (.int .i64 lc) (.int .i64 lr)
     by_cases h:lb=f/\la=t/\lr=r
     ·have e0:=Zi0 (lc:=lc) h
      have hh:Zb7 f t r ⟨la,lb,lc,lr⟩=true:=by simp [Zb7,h.1,h.2.1,h.2.2]
      have HH:=hide hh;clear hh h
      go_wp2
      go_ret
      exact⟨ZdJ (ZgF HNO.out HL.out HH.out).symm,hb.alloc hb.size _⟩
     ·have e0:=Zku (lc:=lc) h
      have HH:=hide h;clear h
      go_wp2
      go_roundw
      case rel=>exact ⟨2,by omega,by go_num,fun _=>HN1.out (by omega),fun _=>HH.out,hb.alloc hb.size _,by rw [Below.heap_alloc _ _ _ hz0];exact HP.out,by rw [Below.heap_alloc _ _ _ hz1];exact HQ.out⟩
      case measure=>simp [intOf]
    ·have hh:Zb7 f t r ⟨la,lb,lc,lr⟩=false:=by
      have m1:=HN1.out (by omega)
      have m2:=HN2.out (by omega)
      simp only [Zb7]
      grind
     have HH:=hide hh;clear hh
     go_wp2
     exact⟨⟨k+1,by omega,by go_num,Ze4 HNO.out HL.out HH.out,hb⟩,by simp [intOf];omega⟩
  ·have hk':k=ls.length:=by omega
   have HK:=hide hk';clear hk'
   go_wp2
   go_ret
   exact⟨ZdJ (Zhj HNO.out HK.out).symm,hb⟩
def heV (p:Int × Int):Value:=.agg #[.int .i64 p.1,.int .i64 p.2]
def heE (p:Int × Int):List Value:=[.int .i64 p.1,.int .i64 p.2]
theorem Zj4 (p:Int × Int):(heE p).length=2:=rfl
theorem Zmc (p:Int × Int):∀ u∈heE p,u.oneCell'=true:=by
 intro u hu;simp only [heE,List.mem_cons,List.not_mem_nil,or_false] at hu
 rcases hu with rfl | rfl <;> rfl
def Zdu (W:World)(v:Value)(ls:List (Int × Int))(B:Nat):Prop:=ZaP heE 2 W v ls B
instance:Inhabited (Int × Int):=⟨(0,0)⟩
theorem Zdu.shape {W:World}{v:Value}{ls:List (Int × Int)}{B:Nat}(h:Zdu W v ls B):∃ a cap,v=.slice a ls.length cap:=by
 obtain⟨a,cap,h,_⟩:=h;exact⟨a,cap,h⟩
theorem Zdu.cells {W:World}{v:Value}{ls:List (Int × Int)}{B:Nat}(h:Zdu W v ls B)(i:Nat)(p:Int × Int)(hp:ls[i]? = some p):
  ∃ b off cap,v=.slice (some ⟨b,off,none⟩) ls.length cap/\b<B/\W.cell? ⟨b,off+i*2,none⟩=some (.int .i64 p.1)/\W.cell? ⟨b,off+i*2+1,none⟩=some (.int .i64 p.2):=by
 obtain⟨b,off,cap,hv,hb,hc⟩:=ZaP.cell h Zj4 i p hp;exact⟨b,off,cap,hv,hb,hc 0 _ rfl,hc 1 _ rfl⟩
theorem Tryz.infoEnd:(Tryz.prog.info? 111).map (fun i=>(i.zero,i.size,i.bytes))=some (some (.agg #[.int .i64 0,.int .i64 0]),2,16):=by kernel_rfl
theorem Zd9 {α:Type}{enc:α->List Value}{sz bytes:Nat}(hlen:∀ a,(enc a).length=sz)(hpos:0<sz)(hbb:bytes<=100){P:Program}{ops:Array Oper}{o:Oper}{a:Act}{w:World}{K:Act->World->Prop}{Q:Exit->Act->World->Prop}{E:Prop}(hgd:o.guard=none)(s x:Operand)(t:TypeId)
  (ho:o.op=.call { callee:=.builtin .append,args:=#[s,x],argTypes:=#[t,t] }) (base:Nat) (e:TypeId) (ht:P.underlying t=some (.slice e)) (zv:Value) (hzv:zv.cells.size=sz)
  (hinfo:(P.info? e).map (fun i=>(i.zero,i.size,i.bytes))=some (some zv,sz,bytes))
  (v:Value) (l:List α) (y:α) (hone:∀ u∈enc y,u.oneCell'=true) (hs:a.eval s=v) (hown:w.ownsRow base e sz v l.length (flat enc l))
  (ad:Addr) (c:Nat) (hx:a.eval x=.slice (some ad) 1 c) (hnews:∀ j u,(enc y)[j]? = some u->w.cell? (ad.add j)=some u)
  (hl:l.length+1<=1000000000) (hbase:base<=w.heap.size)
  (h:∀ v' w',w'.ownsRow base e sz v' (l++[y]).length (flat enc (l++[y]))->w.grownBy w' v.ownBlock->K (a.put o.dst v') w'):
  if Region.wanted o (yielded ops a.tmps)=true then Oper.wp P o a w K Q else E:=by
 have hw:Region.wanted o (yielded ops a.tmps)=true:=by simp [Region.wanted,hgd]
 rw [if_pos hw];obtain⟨i0,hi,hz0,hz1,hz2⟩:=info_parts hinfo;refine wp_append_own w s x t ho base e i0 zv sz bytes ht hi hz0 hz1 hz2 hzv hpos v l.length (flat enc l) hs hown ad 1 c (enc y) hx (by rw [hlen];omega) hnews hone (by unfold maxLen;omega) ?_ hbase ?_
 ·have:(l.length+1)*bytes<=1000000000*100:=Nat.mul_le_mul hl hbb
  omega
 ·intro v' w' h1 h2 _
  have e1:flat enc l++enc y=flat enc (l++[y]):=by rw [ZaL];simp [flat]
  rw [e1] at h1;exact h v' w' (by simpa using h1) h2
theorem Zlw (l m:Int × Int)(w:World):Calls Tryz.prog 80 #[heV l,heV m] w fun e w'=>e=.returned (.int .i64 (ordH l m))/\Below w.heap.size w w':=by
 obtain⟨o,k⟩:=l;obtain⟨o',k'⟩:=m;unfold heV ordH;simp only []
 go_enter Tryz.func80,Tryz.ntmps80
 go_wp2
 obtain⟨w1,hw1⟩:∃ w1,w1=(w.alloc (.cells #[.int .i64 o,.int .i64 k] 111)).alloc (.cells #[.int .i64 o',.int .i64 k'] 111):=⟨_,rfl⟩;have B1:Below w.heap.size w w1:=by rw [hw1];exact ZaW _ _
 have p0:w1.heap[w.heap.size]? = some (.cells #[.int .i64 o,.int .i64 k] 111):=by rw [hw1,Below.heap_alloc _ _ _ (by simp),heap_alloc_new]
 have q0:w1.heap[w.heap.size+1]? = some (.cells #[.int .i64 o',.int .i64 k'] 111):=by
  rw [hw1];have:=heap_alloc_new (w.alloc (.cells #[.int .i64 o,.int .i64 k] 111)) (.cells #[.int .i64 o',.int .i64 k'] 111)
  simpa using this
 rw [<-hw1];clear hw1;have s0:=Zaa p0 0;have s1:=Zaa p0 1;have t0:=Zaa q0 0;have t1:=Zaa q0 1;have hz0:=Zab p0;have hz1:=Zab q0;simp at s0 s1 t0 t1
 clear p0 q0;have hz2:=B1.size
 go_region_held3 (fun W=>W.cell? ⟨w.heap.size,0,none⟩=some (.int .i64 o)/\W.cell? ⟨w.heap.size,1,none⟩=some (.int .i64 k)/\W.cell? ⟨w.heap.size+1,0,none⟩=some (.int .i64 o')/\W.cell? ⟨w.heap.size+1,1,none⟩=some (.int .i64 k')) (first | go_keep | assumption) (first | (go_at_call 119;refine (Zbw _ _ _).mono ?_;rintro e w' ⟨rfl,rfl⟩) | (go_at_call 118;refine (Zl3 _ (cmpN o o') (cmpN k k') _ ?_ ?_).mono ?_;(exact Zc1 _ _ _ _ _ rfl);(exact Zc1 _ _ _ _ _ rfl);rintro e w' ⟨rfl,rfl⟩))
 go_wp2
 go_ret
 exact⟨rfl,B1.drew.alloc B1.size _⟩
theorem ZkR (v:Value)(ls:List (Int × Int))(w:World)(hls:ls.length<=1048576)(hv:Zdu w v ls w.heap.size):
  Calls Tryz.prog 79 #[v,.func (.func 80) #[] #[]] w fun e w'=>e=.returned (.bool (ascB ordH ls))/\Below w.heap.size w w':=by
 obtain⟨a,cap,rfl⟩:=Zdu.shape hv;have HV:=hide hv;clear hv
 go_enter Tryz.func79,Tryz.ntmps79
 go_wp2
 go_loopw [5] (fun i wr=>∃ k:Nat,1<=k/\(k<=ls.length\/k=1)/\i=.int .i64 k/\(∀ j,j<k->ZbA ordH ls j=true)/\Below w.heap.size w wr) (fun i _=>ls.length+1-(intOf i).toNat)
 case atStart=>exact ⟨1,by omega,by omega,rfl,fun j hj=>by (obtain rfl:j=0:=by omega);rfl,Below.refl _ _⟩
 case round=>
  obtain⟨k,hk1,hk,rfl,hno,hb⟩:=hrel;have HNO:=hide hno;clear hno;by_cases hlt:k<ls.length
  ·obtain ⟨l,hl⟩:∃ l,ls[k]? = some l:=⟨ls[k],List.getElem?_eq_getElem hlt⟩
   obtain⟨j,hj⟩:∃ j,k=j+1:=⟨k-1,by omega⟩
   obtain⟨p,hp⟩:∃ p,ls[j]? = some p:=⟨ls[j],List.getElem?_eq_getElem (by omega)⟩
   obtain⟨b,off,cap',hve,hbb,c0,c1⟩:=Zdu.cells HV.out k l hl;cases hve
   obtain⟨b',off',cap2,hve2,hbb2,d0,d1⟩:=Zdu.cells HV.out j p hp;cases hve2
   rw [<-hb.cell (p:=⟨b,off+k*2,none⟩) hbb] at c0;rw [<-hb.cell (p:=⟨b,off+k*2+1,none⟩) hbb] at c1;rw [<-hb.cell (p:=⟨b,off+j*2,none⟩) hbb] at d0;rw [<-hb.cell (p:=⟨b,off+j*2+1,none⟩) hbb] at d1;have hat:ZbA ordH ls k=decide (ordH p l<0):=by rw [hj];exact Za6 hp (by rw [<-hj];exact hl)
   have hzr:=hb.size;have hbr:b<wr.heap.size:=by omega
   have hki:(0:Int)<=(k:Int):=by omega
   have hkj:(k:Int)<(ls.length:Int):=by omega
   have hj1:(k:Int)-1=(j:Int):=by omega
   have hj2:(0:Int)<=(j:Int):=by omega
   have hj3:(j:Int)<(ls.length:Int):=by omega
   have hj5:IntKind.i64.wrap (j:Int)=(j:Int):=ZaD _ (by omega) (by omega)
   have HORD:=hide (Zlw p l);have HAT:=hide hat;have HJ:=hide hj;clear hl hp hat hj;obtain⟨x,hx⟩:∃ x,x=ordH p l:=⟨_,rfl⟩;rw [<-hx] at HORD HAT;clear hx;unfold heV at HORD;by_cases hx0:x<0
   ·have hx1:¬(0:Int)<=x:=by omega
    rw [decide_eq_true hx0] at HAT
    go_wp2
    go_region_held3 (fun W=>W.cell? ⟨b,off+k*2,none⟩=some (.int .i64 l.1)/\W.cell? ⟨b,off+k*2+1,none⟩=some (.int .i64 l.2)/\W.cell? ⟨b,off+j*2,none⟩=some (.int .i64 p.1)/\W.cell? ⟨b,off+j*2+1,none⟩=some (.int .i64 p.2)) (first | go_keep | (refine ⟨?_,?_,?_,?_⟩ <;> (rw [hbc.cell (by assumption)];assumption))) (first | (go_at_call 80;refine (HORD.out _).mono ?_;rintro e w2 ⟨rfl,hbc⟩))
    go_wp2
    exact⟨⟨k+1,by omega,by omega,by go_num,ZaC HNO.out HAT.out,hb.drew.trans (hbc.mono hb.size)⟩,by simp [intOf];omega⟩
   ·have hx1:(0:Int)<=x:=by omega
    rw [decide_eq_false hx0] at HAT;have hf:ascB ordH ls=false:=ZaF hlt HAT.out;have HF:=hide hf;clear hf
    go_wp2
    go_region_held3 (fun W=>W.cell? ⟨b,off+k*2,none⟩=some (.int .i64 l.1)/\W.cell? ⟨b,off+k*2+1,none⟩=some (.int .i64 l.2)/\W.cell? ⟨b,off+j*2,none⟩=some (.int .i64 p.1)/\W.cell? ⟨b,off+j*2+1,none⟩=some (.int .i64 p.2)) (first | go_keep | (refine ⟨?_,?_,?_,?_⟩ <;> (rw [hbc.cell (by assumption)];assumption))) (first | (go_at_call 80;refine (HORD.out _).mono ?_;rintro e w2 ⟨rfl,hbc⟩))
    go_wp2
    go_ret
    exact⟨Zaf HF.out,hb.drew.trans (hbc.mono hb.size)⟩
  ·have hall:ascB ordH ls=true:=ZaG fun i hi=>HNO.out i (by omega)
   have HA:=hide hall;clear hall
   go_wp2
   go_ret
   exact⟨Zaf HA.out,hb⟩
theorem ZgN (v:Value)(h:List Int)(w:World)(hn:h.length<=1048576)(hv:Za9 w v h w.heap.size):
  Calls Tryz.prog 77 #[v] w fun e w'=>∃ u,e=.returned u/\w'.ownsRow w.heap.size 111 2 u (ZaJ h).length (flat heE (ZaJ h))/\Below w.heap.size w w':=by
 obtain⟨a,cap,rfl⟩:=hv.shape;have HV:=hide hv;have hpl:=Zdj h;have HPL:=hide hpl;clear hv hpl
 go_enter Tryz.func77,Tryz.ntmps77
 go_wp2
 go_loopw [4,3] (fun i o wr=>∃ (k:Nat) (u:Value),2*k<=h.length/\i=.int .i64 (2*(k:Int)+1)/\o=u/\wr.ownsRow w.heap.size 111 2 u ((ZaJ h).take k).length (flat heE ((ZaJ h).take k))/\Below w.heap.size w wr) (fun i _ _=>h.length+2-(intOf i).toNat)
 case atStart=>exact ⟨0,_,by omega,by simp,rfl,World.ownsRow_nil _ _ _ _,Below.refl _ _⟩
 case round=>
  obtain⟨k,u,hk,rfl,rfl,hown,hb⟩:=hrel;have hsz:=hb.size;obtain⟨ua,uc,hue⟩:=Zac hown;have htl:((ZaJ h).take k).length=k:=by rw [List.length_take,HPL.out];omega
  by_cases hlt:2*k+1<h.length
  ·have hj0:(2*(k:Int)+1)<(h.length:Int):=by omega
   obtain⟨x,hx⟩:∃ x,h[2*k]? = some x:=⟨h[2*k],List.getElem?_eq_getElem (by omega)⟩
   obtain⟨y,hy⟩:∃ y,h[2*k+1]? = some y:=⟨h[2*k+1],List.getElem?_eq_getElem hlt⟩;obtain⟨b,off,cap',hve,hbb,c0⟩:=HV.out.cell (2*k) x hx;cases hve
   obtain⟨b',off',cap2,hve2,hbb2,d0⟩:=HV.out.cell (2*k+1) y hy;cases hve2
   rw [<-hb.cell (p:=⟨b,off+2*k,none⟩) hbb] at c0;rw [<-hb.cell (p:=⟨b,off+(2*k+1),none⟩) hbb] at d0;have HST:=hide (Zju h k x y hx hy);have hbr:b<wr.heap.size:=by omega
   have e1:(2*(k:Int)+1)-1=((2*k:Nat):Int):=by omega
   have e2:(2*(k:Int)+1)=((2*k+1:Nat):Int):=by omega
   have hw1:IntKind.i64.wrap (2*(k:Int)+1-1)=2*(k:Int)+1-1:=ZaD _ (by omega) (by omega)
   subst hue;clear hx hy;have HOW:=hide hown;have HVV:=hide HV;clear hown HV;have q1:(0:Int)<=2*(k:Int):=by omega
   have q2:2*(k:Int)<(h.length:Int):=by omega
   have q3:(0:Int)<=2*(k:Int)+1:=by omega
   have q4:(2*(k:Int)).toNat=2*k:=by omega
   have q5:(2*(k:Int)+1).toNat=2*k+1:=by omega
   have q6:2*(k:Int)+1-1=2*(k:Int):=by omega
   rw [q6] at hw1;rw [htl] at HOW |-;clear e1 e2;have HNE:some b≠(Value.slice ua k uc).ownBlock:=fun e=>by have:=(HOW.out.lt b e.symm).1;omega
   go_wp2
   go_region_held3 (fun W=>W.cell? ⟨b,off+2*k,none⟩=some (.int .i64 x)/\W.cell? ⟨b,off+(2*k+1),none⟩=some (.int .i64 y)) (first | go_keep | exact ⟨hgrow.cell ((((Below.refl wr.heap.size wr).alloc (Nat.le_refl _) _).drew.cell hbr).trans c0) HNE,hgrow.cell ((((Below.refl wr.heap.size wr).alloc (Nat.le_refl _) _).drew.cell hbr).trans d0) HNE⟩) (first | (refine Zd9 Zj4 (by omega) (by omega) rfl _ _ 108 rfl w.heap.size 111 Tryz.underlying108 (.agg #[.int .i64 0,.int .i64 0]) rfl Tryz.infoEnd (.slice ua k uc) ((ZaJ h).take k) (x,y) (Zmc _) rfl ?_ ⟨wr.heap.size,0,none⟩ 1 rfl ?_ ?_ ?_ ?_;(rw [htl];exact (HOW.out.alloc _).drew);(exact Zar (cs:=heE (x,y)));(omega);(simp;omega);intro v' w1 hown' hgrow))
   have hgs:=hgrow.size;simp at hgs
   have BF:Below w.heap.size w w1:=(hb.alloc hsz _).drew.grown hgrow (by simp;omega) (fun k hk=>(HOW.out.lt k hk).1)
   have HO:=hide hown';clear hown' hgrow
   go_wp2
   go_roundw
   case rel=>exact ⟨k+1,v',by omega,by go_num,rfl,by rw [HST.out];exact HO.out,BF⟩
   case measure=>simp [intOf];omega
  ·have hj0:¬(2*(k:Int)+1)<(h.length:Int):=by omega
   have KN:=hide (show (ZaJ h).take k=ZaJ h by rw [List.take_of_length_le];rw [HPL.out];omega)
   subst hue;have OW:=hide hown;clear hown
   go_wp2
   go_ret
   have h1:=OW.out;rw [KN.out] at h1;exact⟨_,by rw [<-KN.out,htl];rfl,h1,hb⟩
theorem Zh3 (v1 v2 v3 v4:Value)(x:SelfD)(ps:List RP)(w:World)(hl:x.net.ls.length<=1048576)(hh:x.heard.length<=1048576)(hv:SelfIn w v1 v2 v3 v4 x ps w.heap.size):
  Calls Tryz.prog 38 #[ZdL x v1 v2 v3 v4] w fun e w'=>e=.returned (.bool (Zck x.net.ls x.id x.heard))/\Below w.heap.size w w':=by
 obtain⟨a1,c1,rfl⟩:=hv.links.shape;obtain⟨a2,c2,rfl⟩:=hv.things.shape;obtain⟨a3,c3,rfl⟩:=hv.heard.shape;obtain⟨a4,c4,rfl⟩:=hv.store.shape;have HX:=hide hv;have HPL:=hide (Zdj x.heard);clear hv;obtain⟨H,hH⟩:∃ H,H=Zck x.net.ls x.id x.heard:=⟨_,rfl⟩;rw [<-hH];have HH:=hide hH;clear hH
 go_enter Tryz.func38,Tryz.ntmps38
 have BA:Below w.heap.size w (w.alloc (.cells #[.int .i64 x.id,.int .i64 x.boot,.int .i64 x.net.n,.slice a1 x.net.ls.length c1,.slice a2 x.net.ts.length c2,.slice a3 x.heard.length c3,.slice a4 ps.length c4] 31)):=(Below.refl _ _).alloc (Nat.le_refl _) _;have HE:=hide (ZgN (.slice a3 x.heard.length c3) x.heard _ hh (HX.out.heard.then BA))
 go_wp2_with fail
 refine HE.out.mono ?_
 rintro e w1 ⟨u,rfl,ho,b1⟩;have g1:w1.heap[w.heap.size]? = some (.cells #[.int .i64 x.id,.int .i64 x.boot,.int .i64 x.net.n,.slice a1 x.net.ls.length c1,.slice a2 x.net.ts.length c2,.slice a3 x.heard.length c3,.slice a4 ps.length c4] 31):=by rw [b1.block _ (by simp)];exact heap_alloc_new w _
 have B1:Below w.heap.size w w1:=BA.trans (b1.mono BA.size);obtain⟨ua,uc,rfl⟩:=Zac ho;obtain⟨L,hL⟩:∃ L,L=ZaJ x.heard:=⟨_,rfl⟩;rw [<-hL] at ho |-;have EA:=hide (show Zdu w1 (.slice ua L.length uc) L w1.heap.size from Zaq ho)
 have hLl:L.length<=1048576:=by rw [hL,HPL.out];omega
 have HL:=hide hL;have G1:=hide g1;clear hL ho b1 BA HE g1
 go_wp2
 go_loopw [11] (fun i wr=>∃ k:Nat,k<=L.length/\i=.int .i64 k/\Hid (∀ j,j<k->okAt (hitP x.net.ls x.id) L j=true)/\Below w1.heap.size w1 wr) (fun i _=>L.length+1-(intOf i).toNat)
 case atStart=>exact ⟨0,by omega,rfl,hide (by omega),Below.refl _ _⟩
 case round=>
  obtain⟨k,hk,rfl,HNO,hb⟩:=hrel;have gr:=(hb.block _ (Zab G1.out)).trans G1.out;have B2:Below w.heap.size w wr:=B1.trans (hb.mono B1.size);have t0:=Zaa gr 0;have t2:=Zaa gr 2;have t3:=Zaa gr 3;have t4:=Zaa gr 4;have t5:=Zaa gr 5;simp at t0 t2 t3 t4 t5
  have hgl:=Zab gr;by_cases hlt:k<L.length
  ·obtain ⟨p,hp⟩:∃ p,L[k]? = some p:=⟨L[k],List.getElem?_eq_getElem hlt⟩
   obtain⟨b,off,cap',hve,hbb,c0,c1'⟩:=Zdu.cells EA.out k p hp;cases hve
   rw [<-hb.cell (p:=⟨b,off+k*2,none⟩) hbb] at c0;rw [<-hb.cell (p:=⟨b,off+k*2+1,none⟩) hbb] at c1';have hki:(0:Int)<=(k:Int):=by omega
   have hkj:(k:Int)<(L.length:Int):=by omega
   have BC:Below wr.heap.size wr (wr.alloc (.cells #[.int .i64 p.1,.int .i64 p.2] 111)):=(Below.refl _ _).alloc (Nat.le_refl _) _;have HC:=hide (Zj5 (.int .i64 x.net.n) (.slice a1 x.net.ls.length c1) (.slice a2 x.net.ts.length c2) x.net.ls x.id p.1 p.2 _ hl (ZaT.then (ZaT.then HX.out.links B2) BC));obtain⟨C,hC⟩:∃ C,C=Zci x.net.ls x.id p.1 p.2:=⟨_,rfl⟩;rw [<-hC] at HC;have HAT:=hide (show okAt (hitP x.net.ls x.id) L k = !(C==0) by rw [Zbh hp,hC];rfl)
   clear hC hp gr
   go_wp2_with fail
   refine HC.out.mono ?_
   rintro e w3 ⟨rfl,b3⟩;have B3:Below w1.heap.size w1 w3:=(hb.trans (BC.mono hb.size)).trans (b3.mono (by have:=BC.size;have:=hb.size;omega))
   have B4:Below w.heap.size w w3:=B1.trans (B3.mono B1.size);clear b3 HC c0 c1' t0 t2 t3 t4 t5;by_cases hc0:C=0
   ·have HF:=hide (show H=false by
     rw [HH.out];unfold Zck;rw [<-HL.out];have:L.all (hitP x.net.ls x.id)=false:=by
      rw [List.all_eq_false];refine⟨L[k],List.getElem_mem hlt,?_⟩
      have h:=HAT.out;rw [Zbh (List.getElem?_eq_getElem hlt),hc0] at h;rw [h];simp
     rw [this,Bool.false_and])
    subst hc0
    go_wp2
    go_ret
    exact⟨Zaf HF.out,B4⟩
   ·have HT:=hide (show okAt (hitP x.net.ls x.id) L k=true by rw [HAT.out];simpa using hc0)
    go_wp2
    go_roundw
    case rel=>exact ⟨k+1,by omega,by go_num,hide (ZaC HNO.out HT.out),B3⟩
    case measure=>simp [intOf];omega
  ·have hkj:¬(k:Int)<(L.length:Int):=by omega
   have HALL:=hide (show L.all (hitP x.net.ls x.id)=true by
    rw [List.all_eq_true];intro q hq;obtain⟨i,hi,e⟩:=List.mem_iff_getElem.1 hq;have h:=HNO.out i (by omega)
    rw [Zbh (List.getElem?_eq_getElem hi),e] at h;exact h)
   have HAS:=hide (ZkR (.slice ua L.length uc) L _ hLl (ZaT.then EA.out hb));have HFIN:=hide (show H=(decide (x.heard.length%2=0)&&ascB ordH L) by
    rw [HH.out];unfold Zck;rw [<-HL.out,HALL.out,Bool.true_and])
   clear HNO gr;by_cases hpar:x.heard.length%2=0
   ·have hp1:(x.heard.length:Int)%2=0:=by omega
    rw [decide_eq_true hpar,Bool.true_and] at HFIN;clear hpar
    go_wp2_with fail
    refine HAS.out.mono ?_
    rintro e w3 ⟨rfl,b3⟩;have B4:Below w.heap.size w w3:=B2.trans (b3.mono B2.size);clear b3 t0 t2 t3 t4 t5
    go_wp2
    go_ret
    exact⟨Zaf HFIN.out,B4⟩
   ·have hp1:¬(x.heard.length:Int)%2=0:=by omega
    rw [decide_eq_false hpar,Bool.false_and] at HFIN;clear hpar
    go_wp2
    go_ret
    exact⟨Zaf HFIN.out,B2⟩
end Go.Proofs.YtcimbiinljcifaaGreat
