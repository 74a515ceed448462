/-
  Parts.
-/
import Derived.Test.YtikloccefmofdaaGreatFi31
namespace Go.Proofs.YtikloccefmofdaaGreat
open Go.RowKit
set_option linter.unusedSimpArgs false
set_option linter.unusedVariables false
set_option maxRecDepth 100000
set_option maxHeartbeats 8000000
variable {a n src v:Int}{bs zs:List Bool}{al:List Int}{ls:List Lk}{xs:List RecD}{ts:List Th}{N:Nat}{r:RecD}
theorem ZiJ {rs:List RecD}(h:Asc rs)(r:RecD):Asc (putD rs r):=by
 unfold putD Asc;rw [YAY,YAM];refine⟨List.Pairwise.filter _ h,?_,?_⟩
 ·rw [YAM];refine⟨by simp,List.Pairwise.filter _ h,fun a ha b hb=>?_⟩;have:a=r:=by simpa using ha
  subst this;exact (YAP.1 hb).2
 ·intro a ha b hb;have h1:=(YAP.1 ha).2;rcases YAF.1 hb with h2 | h2
  ·have:b=r:=by simpa using h2
   subst this;exact h1
  ·exact ZcG h1 (YAP.1 h2).2
theorem ZeA {x:RecD}(h:x∈putD xs r):x∈xs\/x=r:=by
 unfold putD at h;simp only [YAY,YAF,YAP,YAw] at h;rcases h with h | h | h
 ·exact .inl h.1
 ·exact .inr h
 ·exact .inl h.1
def cntR (p:RecD->Bool)(xs:List RecD):Nat:=(xs.filter p).length
theorem Zg1 (p:RecD->Bool)(a b:List RecD):cntR p (a++b)=cntR p a+cntR p b:=by simp [cntR]
theorem Zl4 (p f g:RecD->Bool)(hfg:∀ x,f x=true->g x=false)(xs:List RecD):cntR p (xs.filter f)+cntR p (xs.filter g)<=cntR p xs:=by
 induction xs with
 | nil=>simp [cntR]
 | cons x xs ih=>
  have h:=hfg x;unfold cntR at *;simp only [List.filter_cons];cases hf:f x <;> cases hg:g x <;> cases hp:p x <;> simp_all <;> omega
theorem ZiS (p:RecD->Bool)(xs:List RecD)(r:RecD):cntR p (putD xs r)<=cntR p xs+(if p r then 1 else 0):=by
 unfold putD;rw [Zg1,Zg1];have h:=Zl4 p (fun x=>Zak x r) (fun x=>Zak r x) (fun x hx=>ZdM hx) xs;have h1:cntR p [r]=if p r then 1 else 0:=by unfold cntR;cases hp:p r <;> simp [hp]
 omega
theorem Zg2 (p f:RecD->Bool)(xs:List RecD):cntR p (xs.filter f)<=cntR p xs:=by
 unfold cntR;rw [List.filter_filter]
 induction xs with
 | nil=>simp
 | cons x xs ih=>
  simp only [List.filter_cons];cases hf:f x <;> cases hp:p x <;> simp_all;omega
theorem ZrN (p:RecD->Bool)(xs:List RecD):cntR p xs<=xs.length:=List.length_filter_le _ _
theorem Zg3 {p:RecD->Bool}(h:∀ x∈xs,p x=false):cntR p xs=0:=by
 unfold cntR;rw [List.length_eq_zero_iff,List.filter_eq_nil_iff];intro a ha;rw [h a ha];decide
def hisR (u:Int)(r:RecD):Bool:=r.kind==2&&r.owner==u
def ownR (r:RecD):Bool:=r.kind != 2
theorem ZiB :∀ {ts:List RecD}{xs:List RecD},Asc xs->(∀ r∈xs,ZaW r=true)->(∀ r∈ts,ZaW (seq1 r)=true)->Asc (ZdW xs ts)/\∀ r∈ZdW xs ts,ZaW r=true
 | [],xs,h1,h2,_=>⟨h1,h2⟩
 | t::ts,xs,h1,h2,h3=>by
  have:=ZiB (ts:=ts) (xs:=putD xs (seq1 t)) (ZiJ h1 _) (fun r hr=>by
   rcases ZeA hr with h | h
   ·exact h2 r h
   ·rw [h];exact h3 t (by simp)) (fun r hr=>h3 r (YAg _ hr))
  exact this
theorem ZiT (p:RecD->Bool)(hp:∀ r,p (seq1 r)=p r):∀ (ts xs:List RecD),cntR p (ZdW xs ts)<=cntR p xs+cntR p ts
 | [],xs=>by simp [ZdW,cntR]
 | t::ts,xs=>by
  have h:=ZiT p hp ts (putD xs (seq1 t));have h1:=ZiS p xs (seq1 t);have h2:cntR p (t::ts)=(if p t then 1 else 0)+cntR p ts:=by unfold cntR;cases hp':p t <;> simp [hp'] <;> omega
  rw [hp] at h1;have h3:ZdW xs (t::ts)=ZdW (putD xs (seq1 t)) ts:=rfl;rw [h3];omega
theorem ZfW (r:RecD):(seq1 r).kind=r.kind/\(seq1 r).owner=r.owner:=by unfold seq1;split <;> exact ⟨rfl,rfl⟩
theorem Zql (u:Int)(r:RecD):hisR u (seq1 r)=hisR u r:=by unfold hisR;rw [(ZfW r).1,(ZfW r).2]
theorem ZqR (r:RecD):ownR (seq1 r)=ownR r:=by unfold ownR;rw [(ZfW r).1]
theorem ZdR (h:r∈tolD xs al src a):∃ to c,r=ZbK a src to c/\Zcl xs al src a to c:=by
 unfold tolD at h
 split at h
 ·rename_i hx
  exact ((Classical.choose_spec hx).2 r).1 h
 ·cases h
theorem Zjx (xs:List RecD)(al:List Int)(src a:Int):(tolD xs al src a).length<=6:=by
 unfold tolD
 split
 ·rename_i hx
  exact (Classical.choose_spec hx).tot.1
 ·simp
theorem ZbV {bl:List Int}(h:r∈Zbd xs al src bl):∃ a to c,a∈bl/\r=ZbK a src to c/\Zcl xs al src a to c:=by
 unfold Zbd at h;obtain⟨a,ha,hr⟩:=YAp.1 h;obtain⟨to,c,h1,h2⟩:=ZdR hr;exact⟨a,to,c,ha,h1,h2⟩
theorem ZgW (xs:List RecD)(al:List Int)(src:Int):∀ bl:List Int,(Zbd xs al src bl).length<=6*bl.length
 | []=>by simp [Zbd]
 | a::bl=>by
  have h:=ZgW xs al src bl;have h1:=Zjx xs al src a;have h2:Zbd xs al src (a::bl)=tolD xs al src a++Zbd xs al src bl:=rfl;rw [h2,YAN,YAk];omega
theorem ZkK {to c:Int}(h:Zcl xs al src a to c):0<=c/\c<=60000:=by
 obtain⟨_,_,⟨w,h1,e⟩ | ⟨_,w,h1,e⟩⟩:=h
 ·rw [e];exact (Zfo h1 (fun d h=>Za1 h)).1.cost
 ·rw [e];exact (Zfo h1 (fun d h=>Zby h)).1.cost
theorem ZpE {node to c:Int}(ha:0<=a/\a<=2)(hn:1<=node/\node<=6)(ht:1<=to/\to<=6)(hc:0<=c/\c<=60000):ZaW (seq1 (ZbK a node to c))=true:=by
 simp [ZaW,seq1,ZbK,inB];omega
theorem Zez (h:a∈Zas ls v):0<=a/\a<=2:=by
 unfold Zas at h;have:=(YAP.1 h).1;simp at this;omega
structure IdOk (N:Nat) (xs:List RecD):Prop where
 asc:Asc xs
 ok:∀ r∈xs,ZaW r=true
 own:cntR ownR xs<=22
 his:∀ u,cntR (hisR u) xs<=18
theorem IdOk.bey (h:IdOk N xs){node:Int}(hn:1<=node/\node<=6):IdOk N (beyD xs (Zas ls node) node):=by
 have hal:=Zco ls node;have hlen:=ZgW xs (Zas ls node) node (Zas ls node);obtain⟨k1,k2⟩:=ZiB (ts:=Zbd xs (Zas ls node) node (Zas ls node)) (xs:=xs.filter (ZbQ node)) (List.Pairwise.filter _ h.asc) (fun r hr=>h.ok r (YAP.1 hr).1) (fun r hr=>by
  obtain⟨a,to,c,ha,rfl,ht⟩:=ZbV hr;exact ZpE (Zez ha) hn (ZcA ht) (ZkK ht))
 refine⟨k1,k2,?_,fun u=>?_⟩
 ·have h1:=ZiT ownR ZqR (Zbd xs (Zas ls node) node (Zas ls node)) (xs.filter (ZbQ node));have h2:=Zg2 ownR (ZbQ node) xs;have h3:cntR ownR (Zbd xs (Zas ls node) node (Zas ls node))=0:=Zg3 (fun r hr=>by
   obtain⟨a,to,c,ha,rfl,ht⟩:=ZbV hr;rfl)
  have h4:=h.own;unfold beyD;omega
 ·have h1:=ZiT (hisR u) (Zql u) (Zbd xs (Zas ls node) node (Zas ls node)) (xs.filter (ZbQ node));have h2:=Zg2 (hisR u) (ZbQ node) xs;unfold beyD;by_cases e:u=node
  ·have h3:cntR (hisR u) (xs.filter (ZbQ node))=0:=Zg3 (fun r hr=>by
    have:=(YAP.1 hr).2;subst e;unfold ZbQ at this;unfold hisR;simp only [YAv,bne_iff_ne,ne_eq] at this;simp only [Bool.and_eq_false_iff,beq_eq_false_iff_ne,ne_eq];exact this)
   have h4:=ZrN (hisR u) (Zbd xs (Zas ls node) node (Zas ls node));omega
  ·have h3:cntR (hisR u) (Zbd xs (Zas ls node) node (Zas ls node))=0:=Zg3 (fun r hr=>by
    obtain⟨a,to,c,ha,rfl,ht⟩:=ZbV hr;simp [hisR,ZbK];exact fun h=>e h.symm)
   have h4:=h.his u;omega
theorem ZoB {N:Nat}{ls:List Lk}{zs:List Bool}{xs:List RecD}(h:IdOk N xs):∀ k,k<=6->IdOk N (idC ls zs xs k)
 | 0,_=>h
 | k+1,hk=>by
  have ih:=ZoB (ls:=ls) (zs:=zs) h k (by omega);unfold idC
  split
  ·exact ih.bey (by omega)
  ·exact ih
theorem ZoC (hN:N<=6)(h:IdOk N xs):∀ r,IdOk N (idR ls zs N xs r)
 | 0=>h
 | r+1=>ZoB (ZoC hN h r) N hN
theorem Zmg (h:IdOk N xs):xs.length<=130:=by
 have key:∀ ys:List RecD,(∀ r∈ys,ZaW r=true)->ys.length<=cntR ownR ys+(cntR (hisR 1) ys+cntR (hisR 2) ys+cntR (hisR 3) ys+cntR (hisR 4) ys+cntR (hisR 5) ys+cntR (hisR 6) ys):=by
  intro ys
  induction ys with
  | nil=>intro _;simp
  | cons y ys ih=>
   intro hy;have h1:=ih (fun r hr=>hy r (YAg _ hr));have h2:=hy y (by simp);have ho:1<=y.owner/\y.owner<=6:=by
    simp only [ZaW,YAJ,inB,YAS] at h2;exact h2.1.1
   have hc:∀ p:RecD->Bool,cntR p (y::ys)=(if p y then 1 else 0)+cntR p ys:=by
    intro p;unfold cntR;cases hp:p y <;> simp [hp] <;> omega
   simp only [hc,YAk];by_cases hk:y.kind=2
   ·have hcase:y.owner=1\/y.owner=2\/y.owner=3\/y.owner=4\/y.owner=5\/y.owner=6:=by omega
    rcases hcase with e | e | e | e | e | e <;> simp [hisR,ownR,hk,e] <;> omega
   ·have:ownR y=true:=by simp [ownR,hk]
    rw [this];simp only [if_true];omega
 have h0:=key xs h.ok;have h1:=h.own;have h2:=h.his;have a1:=h2 1;have a2:=h2 2;have a3:=h2 3;have a4:=h2 4;have a5:=h2 5;have a6:=h2 6;omega
theorem Zh7 (h:IdOk N xs):Zax xs=true:=by
 have hl:=Zmg h;unfold Zax;rw [Zl2 h.asc,YAT (show xs.length<=150 by omega)];simp only [Bool.true_and,Bool.and_true];refine Za4 (fun j hj=>?_);rw [Zck (YAA hj)];exact h.ok _ (YAt hj)
theorem Zih (h:Zb1 n ls=true):∀ l∈ls,ZaP n l=true:=by
 intro l hl;unfold Zb1 at h;simp only [YAJ] at h;obtain⟨i,hi,e⟩:=List.mem_iff_getElem.1 hl;have h1:=List.all_eq_true.1 h.1.2 i (List.mem_range.2 hi);rw [Zck (YAA hi),e] at h1;exact h1
theorem Zmy (h:Zbt n ts=true):∀ t∈ts,Zc9 n t=true:=by
 intro l hl;unfold Zbt at h;simp only [YAJ] at h;obtain⟨i,hi,e⟩:=List.mem_iff_getElem.1 hl;have h1:=List.all_eq_true.1 h.1.2 i (List.mem_range.2 hi);rw [Zck (YAA hi),e] at h1;exact h1
theorem ZqJ (h:∀ l∈ls,ZaP n l=true){f t r:Int}(h0:0<Zcw ls bs f t r):1<=Zcw ls bs f t r/\Zcw ls bs f t r<=1000/\f≠t:=by
 unfold Zcw at *;cases hf:(ls.zip bs).find? (ZdD f t r) with
 | none=>rw [hf] at h0;simp at h0
 | some p=>
  rw [hf] at h0;simp only [Option.map_some,Option.getD_some] at h0 |-
  have hm:=List.mem_of_find?_eq_some hf;have hp:=List.find?_some hf;have hl:=h p.1 (List.of_mem_zip hm).1;simp only [ZaP,inB,YAJ,YAS] at hl;simp only [ZdD,ZbD,YAJ,YAv,beq_iff_eq] at hp;omega
theorem Zjh :∀ {k:Nat} {x:Nr},x∈ZbI ls bs zs v a k->1<=x.to/\x.to<=(k:Int)/\0<x.c/\x.c=Zcw ls bs v x.to a
 | 0,x,h=>by simp [ZbI] at h
 | k+1,x,h=>by
  unfold ZbI at h;rcases YAF.1 h with h1 | h1
  ·have:=Zjh h1;refine⟨this.1,by omega,this.2.2⟩
  ·split at h1
   ·rename_i hc
    simp only [YAJ,YAS] at hc;have e:x=⟨(k:Int)+1,Zcw ls bs v ((k:Int)+1) a⟩:=by simpa using h1
    subst e;exact⟨by show (1:Int)<=(k:Int)+1;omega,by show (k:Int)+1<=((k+1:Nat):Int);omega,hc.1,rfl⟩
   ·cases h1
theorem Zko (ls:List Lk)(bs zs:List Bool)(v a:Int):∀ k,(ZbI ls bs zs v a k).Pairwise (fun x y=>x.to<y.to)
 | 0=>by simp [ZbI]
 | k+1=>by
  unfold ZbI;rw [YAM];refine⟨Zko ls bs zs v a k,?_,fun x hx y hy=>?_⟩
  ·split <;> simp
  ·have h1:=Zjh hx
   split at hy
   ·have e:y=⟨(k:Int)+1,Zcw ls bs v ((k:Int)+1) a⟩:=by simpa using hy
    subst e;show x.to<(k:Int)+1;omega
   ·cases hy
theorem ZqA (h:∀ l∈ls,ZaP n l=true)(v a:Int)(hN:N<=6):Zbn v (ZbI ls bs zs v a N)=true:=by
 unfold Zbn;rw [YAJ];refine⟨Za4 (fun j hj=>?_),Za4 (fun j hj=>?_)⟩
 ·rw [Zck (YAA hj)];have h1:=Zjh (YAt hj);have h2:=ZqJ h (by rw [<-h1.2.2.2];exact h1.2.2.1);rw [<-h1.2.2.2] at h2;simp only [Zcu,inB,YAJ,YAS,Bool.not_eq_true',beq_eq_false_iff_ne,ne_eq];refine⟨⟨⟨h1.1,by omega⟩,fun e=>h2.2.2 e.symm⟩,h2.1,h2.2.1⟩
 ·cases j with
  | zero=>rfl
  | succ j=>
   rw [ZbX (YAA (by omega)) (YAA hj)];have:=YAa.1 (Zko ls bs zs v a N) j (j+1) (by omega) hj (by omega);refine YAT ?_;show (ZbI ls bs zs v a N)[j].to-(ZbI ls bs zs v a N)[j+1].to<0;omega
theorem Zr3 {near:List Nr}(hv:1<=v/\v<=6)(ha:0<=a/\a<=2)(hn:Zbn v near=true):ZaW (Zb2 v a near)=true:=by
 simp [ZaW,Zb2,inB,hv.1,hv.2,ha.1,ha.2,hn]
theorem Zri {t:Th}(ho:1<=t.o/\t.o<=6)(hk:1<=t.k/\t.k<=9)(hc:1<=t.c/\t.c<=1000):ZaW (Zb6 t)=true:=by
 simp [ZaW,Zb6,inB,ho.1,ho.2,hk.1,hk.2,hc.1,hc.2]
structure IdOwn (c:Nat) (xs:List RecD):Prop where
 asc:Asc xs
 ok:∀ r∈xs,ZaW r=true
 own:cntR ownR xs<=c
 his:∀ u,cntR (hisR u) xs=0
theorem IdOwn.put {c:Nat}(h:IdOwn c xs)(hr:ZaW r=true)(hk:r.kind≠2):IdOwn (c+1) (putD xs r) where
 asc:=ZiJ h.asc r
 ok:=fun x hx=>by
  rcases ZeA hx with h1 | h1
  ·exact h.ok x h1
  ·rw [h1];exact hr
 own:=by
  have:=ZiS ownR xs r;have h1:=h.own
  split at this <;> omega
 his:=fun u=>by
  have:=ZiS (hisR u) xs r;have h1:=h.his u;have h2:hisR u r=false:=by simp [hisR,hk]
  rw [h2] at this;simp at this;omega
theorem IdOwn.more {c d:Nat}(h:IdOwn c xs)(hd:c<=d):IdOwn d xs:=⟨h.asc,h.ok,YAK h.own hd,h.his⟩
theorem ZjR {n:Int}{ls:List Lk}{bs zs:List Bool}{N:Nat}{v:Int}{xs:List RecD}{c:Nat}(hl:∀ l∈ls,ZaP n l=true)(hN:N<=6)(hv:1<=v/\v<=6)(h:IdOwn c xs):∀ j,j<=(Zas ls v).length->IdOwn (c+j) (ZeJ ls bs zs N v (Zas ls v) xs j)
 | 0,_=>h
 | j+1,hj=>by
  have ih:=ZjR (bs:=bs) (zs:=zs) hl hN hv h j (by omega);have hm:(Zas ls v).getD j 0∈Zas ls v:=by
   have:(Zas ls v).getD j 0=(Zas ls v)[j]'(by omega):=by simp [List.getD,YAA (show j<(Zas ls v).length by omega)]
   rw [this];exact YAt _
  have ha:=Zez hm;refine ih.put ?_ (by simp [Zb2]);obtain⟨q,hq⟩:∃ q,q=(Zas ls v).getD j 0:=⟨_,rfl⟩;rw [<-hq] at ha |-;have hn:=ZqA (bs:=bs) (zs:=zs) hl v q hN;exact Zr3 hv ha hn
theorem Zle {n:Int}{ls:List Lk}{bs zs:List Bool}{N:Nat}(hl:∀ l∈ls,ZaP n l=true)(hN:N<=6):∀ k,k<=6->IdOwn (3*k) (idA ls bs zs N k)
 | 0,_ => { asc:=List.Pairwise.nil,ok:=fun r hr=>by simp [idA] at hr,own:=by simp [cntR,idA],his:=fun u=>by simp [cntR,idA] }
 | k+1,hk=>by
  have ih:=Zle (bs:=bs) (zs:=zs) hl hN k (by omega);have hal:=Zco ls ((k:Int)+1);unfold idA
  split
  ·exact (ZjR hl hN (by omega) ih _ (YA _)).more (by omega)
  ·exact ih.more (by omega)
theorem Zlf {n:Int}{ts:List Th}{zs:List Bool}{xs:List RecD}{c:Nat}(hn:n<=6)(ht:∀ t∈ts,Zc9 n t=true)(h:IdOwn c xs):∀ k,IdOwn (c+k) (idB ts zs xs k)
 | 0=>h
 | k+1=>by
  have ih:=Zlf (zs:=zs) hn ht h k;unfold idB
  split
  ·rename_i t hk
   split
   ·refine ih.put ?_ (by simp [Zb6]);have h1:=ht t (YAG hk);simp only [Zc9,inB,YAJ,YAS] at h1;exact Zri ⟨h1.1.2.1,by omega⟩ h1.1.1 h1.2
   ·exact ih.more (by omega)
  ·exact ih.more (by omega)
theorem Zqr (hok:Za0 ⟨(N:Int),ls,ts⟩=true):IdOk N (ZcI ls ts bs zs N):=by
 simp only [Za0,YAJ] at hok;obtain⟨⟨h1,h2⟩,h3⟩:=hok;have hN:N<=6:=by simp only [inB,YAJ,YAS] at h1;omega
 have hl:=Zih h2;have ht:=Zmy h3;have htl:ts.length<=4:=by
  unfold Zbt at h3;simp only [YAJ,YAS] at h3;exact h3.1.1
 have hA:=Zle (bs:=bs) (zs:=zs) hl hN N hN;have hB:=Zlf (zs:=zs) (by omega) ht hA ts.length;unfold ZcI;refine ZoC hN ⟨hB.asc,hB.ok,?_,fun u=>by rw [hB.his u];omega⟩ 3;have:=hB.own;omega
theorem Ze1 (hok:Za0 ⟨(N:Int),ls,ts⟩=true):Zax (ZcI ls ts bs zs N)=true:=Zh7 (Zqr hok)
end Go.Proofs.YtikloccefmofdaaGreat
