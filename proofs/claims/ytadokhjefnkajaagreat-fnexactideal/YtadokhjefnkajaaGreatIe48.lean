/-
  IdEqA IdEqB IdBoth IdLawK
-/
import Derived.Test.YtadokhjefnkajaaGreatIe47
import Derived.Test.YtadokhjefnkajaaGreatIe27
import Derived.Test.YtadokhjefnkajaaGreatIe44
import Derived.Test.YtadokhjefnkajaaGreatIe9
import Derived.Test.YtadokhjefnkajaaGreatIe26
import Derived.Test.YtadokhjefnkajaaGreatIe13
import Derived.Test.YtadokhjefnkajaaGreatIe3
namespace Go.Proofs.YtadokhjefnkajaaGreat
open Go.RowKit
set_option linter.unusedSimpArgs false
set_option linter.unusedVariables false
set_option maxRecDepth 100000
set_option maxHeartbeats 8000000
theorem ZpK (al:List Int)(node:Int)(s:List RecD)(a:Int)(x:RecD):x∈runD al node s a↔(x∈s/\(Zam x (keyB a node 0)=true\/Zam x (keyB a node 7)=false))\/x∈(tolD s al node a).map Zca:=by
 unfold runD;simp only [List.mem_append,List.mem_filter,Bool.not_eq_true',Bool.not_eq_true]
 constructor
 ·rintro ((h | h) | h)
  ·exact .inl ⟨h.1,.inl h.2⟩
  ·exact .inr h
  ·exact .inl ⟨h.1,.inr h.2⟩
 ·rintro (⟨h,h1 | h1⟩ | h)
  ·exact .inl (.inl ⟨h,h1⟩)
  ·exact .inr ⟨h,h1⟩
  ·exact .inl (.inr h)
theorem ZpU (al:List Int)(node:Int)(s:List RecD)(a:Int):(runD al node s a).length<=s.length+6:=by
 unfold runD;rw [List.length_append,List.length_append,List.length_map];have h1:=Zia s al node a;have h2:=Zky (fun _=>true) (fun x=>Zam x (keyB a node 0)) (fun x => !Zam x (keyB a node 7)) (fun x hx=>by
  have h:=(Zcy x a node 0).1 hx;have:Zam x (keyB a node 7)=true:=by rw [Zcy];omega
  simp [this]) s
 have h3:cntR (fun _=>true) s<=s.length:=List.length_filter_le _ _
 have h4:∀ l:List RecD,cntR (fun _=>true) l=l.length:=fun l=>by simp [cntR,List.filter_eq_self.2]
 rw [h4,h4] at h2;omega
theorem Zns {x:RecD}(h:ZaX x=true)(hk:x.kind=2):1<=x.key/\x.key<=6:=by
 have hs:ZaI [x]=true:=by
  unfold ZaI ZbJ ascB;simp [okAt,h,Zb0]
 exact (Zd2 hs (List.mem_singleton.2 rfl) hk).1
theorem Zjy {x:RecD}{a node:Int}(h:ZaX x=true):(Zam x (keyB a node 0)=true\/Zam x (keyB a node 7)=false)↔¬(x.kind=2/\x.owner=node/\x.area=a):=by
 constructor
 ·rintro (h1 | h1) ⟨a1,a2,a3⟩
  ·have:=Zns h a1
   rw [Zcy] at h1;omega
  ·have:=Zns h a1
   have h2:Zam x (keyB a node 7)=true:=by rw [Zcy];omega
   rw [h1] at h2;cases h2
 ·intro hn
  cases h7:Zam x (keyB a node 7) with
  | false=>exact .inr rfl
  | true=>
   refine .inl ?_
   rw [Zcy] at *;have h8:=hn;by_cases e:x.kind=2/\x.owner=node/\x.area=a
   ·exact absurd e hn
   ·omega
theorem Zic {xs:List RecD}{al:List Int}{node a:Int}{x:RecD}(ha:0<=a/\a<=2)(hn:1<=node/\node<=6)(h:x∈(tolD xs al node a).map Zca):ZaX x=true/\x.kind=2/\x.owner=node/\x.area=a:=by
 obtain⟨to,c,rfl,ht,h1,h2⟩:=Zj2 h;exact⟨ZnJ ha hn ⟨h1,h2⟩ (Zjl ht),rfl,rfl,rfl⟩
theorem ZnR {xs ys:List RecD}{al:List Int}{src area:Int}(hx:ZaI xs=true)(hy:ZaI ys=true)(ha:area∈al)(h1:∀ z,z.kind=1->z.area∈al->(z∈xs↔z∈ys))(h2:∀ z,z.kind=2->z.owner≠src->z.area∈al->(z∈xs↔z∈ys)):tolD xs al src area=tolD ys al src area:=by
 by_cases h:∃ ds,ZbH xs al src area ds
 ·obtain ⟨ds,hd⟩:=h
  rw [<-ZbH.eq hd, <-ZbH.eq (Zfr hx hy ha h1 h2 hd)]
 ·have h':¬∃ ds,ZbH ys al src area ds:=fun ⟨ds,hd⟩=>h ⟨ds,Zfr hy hx ha (fun z a b=>(h1 z a b).symm) (fun z a b c=>(h2 z a b c).symm) hd⟩
  unfold tolD;rw [dif_neg h,dif_neg h']
structure WInv (xs:List RecD) (al:List Int) (node:Int) (dl:List Int) (s:List RecD):Prop where
 asc:Asc s
 len:s.length<=xs.length+6*dl.length
 mem:∀ x,x∈s↔(x∈xs/\¬(x.kind=2/\x.owner=node/\x.area∈dl))\/∃ a∈dl,x∈(tolD xs al node a).map Zca
theorem Zo7 {s:List RecD}(h1:Asc s)(h2:∀ x∈s,ZaX x=true)(h3:s.length<=150):ZaI s=true:=by
 unfold ZaI;simp only [Bool.and_eq_true,decide_eq_true_eq]
 refine⟨⟨h3,?_⟩,Zkw h1⟩
 unfold ZbJ;refine Za9 fun j hj=>?_
 rw [Zck (List.getElem?_eq_getElem hj)];exact h2 _ (List.getElem_mem hj)
theorem WInv.step {N:Nat}{xs:List RecD}{al dl:List Int}{node a:Int}{s:List RecD}(h:IdOk N xs)(hn:1<=node/\node<=6)(hal:∀ b∈al,0<=b/\b<=2)(hal3:al.length<=3)(hdl:∀ b∈dl,b∈al)(hd3:dl.length<=3)(ha:a∈al)(hna:a ∉ dl)(hs:WInv xs al node dl s):WInv xs al node (dl++[a]) (runD al node s a):=by
 have hl:=ZkI h;have hok:∀ x∈s,ZaX x=true:=fun x hx=>by
  rcases (hs.mem x).1 hx with h1 | ⟨b,hb,h1⟩
  ·exact h.ok x h1.1
  ·exact (Zic (hal b (hdl b hb)) hn h1).1
 have hst:ZaI s=true:=Zo7 hs.asc hok (by have:=hs.len;omega)
 have hsx:ZaI xs=true:=Zlv h;have htol:tolD s al node a=tolD xs al node a:=by
  refine ZnR hst hsx ha (fun z hk _=>?_) (fun z hk ho _=>?_)
  ·rw [hs.mem z]
   constructor
   ·rintro (h1 | ⟨b,hb,h1⟩)
    ·exact h1.1
    ·have:=(Zic (hal b (hdl b hb)) hn h1).2.1;omega
   ·exact fun h1=>.inl ⟨h1,by rintro ⟨e,_⟩;omega⟩
  ·rw [hs.mem z]
   constructor
   ·rintro (h1 | ⟨b,hb,h1⟩)
    ·exact h1.1
    ·exact absurd (Zic (hal b (hdl b hb)) hn h1).2.2.1 ho
   ·exact fun h1=>.inl ⟨h1,by rintro ⟨_,e,_⟩;exact ho e⟩
 refine⟨Zny hs.asc a,?_,fun x=>?_⟩
 ·have h1:=ZpU al node s a
  have h2:=hs.len;simp
  omega
 ·rw [ZpK,htol]
  constructor
  ·rintro (⟨hx,hc⟩ | hx)
   ·have hc2:=(Zjy (hok x hx)).1 hc
    rcases (hs.mem x).1 hx with h1 | ⟨b,hb,h1⟩
    ·refine .inl ⟨h1.1,fun ⟨e1,e2,e3⟩=>?_⟩
     rcases List.mem_append.1 e3 with e4 | e4
     ·exact h1.2 ⟨e1,e2,e4⟩
     ·exact hc2 ⟨e1,e2,by simpa using e4⟩
    ·exact .inr ⟨b,List.mem_append_left _ hb,h1⟩
   ·exact .inr ⟨a,by simp,hx⟩
  ·rintro (⟨hx,hc⟩ | ⟨b,hb,hx⟩)
   ·refine .inl ⟨(hs.mem x).2 (.inl ⟨hx,fun ⟨e1,e2,e3⟩=>hc ⟨e1,e2,List.mem_append_left _ e3⟩⟩),(Zjy (h.ok x hx)).2 (fun ⟨e1,e2,e3⟩=>hc ⟨e1,e2,by rw [e3];simp⟩)⟩
   ·rcases List.mem_append.1 hb with hb1 | hb1
    ·have ht:=Zic (hal b (hdl b hb1)) hn hx
     exact .inl ⟨(hs.mem x).2 (.inr ⟨b,hb1,hx⟩),(Zjy ht.1).2 (fun ⟨_,_,e3⟩=>hna (by rw [<-e3,ht.2.2.2];exact hb1))⟩
    ·have:b=a:=by simpa using hb1
     subst this;exact .inr hx
theorem WInv.all {N:Nat}{xs:List RecD}{al:List Int}{node:Int}(h:IdOk N xs)(hn:1<=node/\node<=6)(hal:∀ b∈al,0<=b/\b<=2)(hal3:al.length<=3):∀ (as' dl:List Int) (s:List RecD),(dl++as').Nodup->(∀ b∈dl++as',b∈al)->(dl++as').length<=3->WInv xs al node dl s->WInv xs al node (dl++as') (wbyD al node s as')
 | [],dl,s,_,_,_,hs=>by simpa [wbyD] using hs
 | a::as',dl,s,hnd,hin,hlen,hs=>by
  have hna:a ∉ dl:=fun e=>(List.nodup_append.1 hnd).2.2 a e a (List.mem_cons_self ..) rfl
  have h1:=hs.step h hn hal hal3 (fun b hb=>hin b (List.mem_append_left _ hb)) (by simp at hlen;omega) (hin a (by simp)) hna
  have h2:=WInv.all h hn hal hal3 as' (dl++[a]) (runD al node s a) (by simpa using hnd) (fun b hb=>hin b (by simpa using hb)) (by simpa using hlen) h1
  unfold wbyD at *;rw [List.foldl_cons]
  simpa using h2
theorem ZcU (ls:List Lk)(v:Int):(ZaB ls v).Nodup:=by
 unfold ZaB;exact List.Pairwise.filter _ (by decide)
theorem Zee (xs:List RecD)(al:List Int)(node:Int):∀ bl:List Int,bl.Nodup->((Za7 xs al node bl).map seq1).Pairwise difK
 | [],_=>by simp [Za7]
 | b::bl,h=>by
  have h1:=List.nodup_cons.1 h;have e:Za7 xs al node (b::bl)=tolD xs al node b++Za7 xs al node bl:=rfl;rw [e,List.map_append,List.pairwise_append];refine⟨?_,Zee xs al node bl h1.2,?_⟩
  ·have e2:(tolD xs al node b).map seq1=(tolD xs al node b).map Zca:=by
    refine List.map_congr_left fun r hr=>?_
    obtain⟨to,c,rfl,_⟩:=Zdk hr
    rfl
   rw [e2];exact Zpv (ZnQ _ _ _ _)
  ·intro x hx y hy
   obtain⟨x0,hx0,rfl⟩:=List.mem_map.1 hx;obtain⟨y0,hy0,rfl⟩:=List.mem_map.1 hy;obtain⟨to,c,rfl,_⟩:=Zdk hx0;obtain⟨b',to',c',hb',rfl,_⟩:=Zcg hy0;unfold difK;cases e3:Zaw (seq1 (ZbC b node to c)) (seq1 (ZbC b' node to' c')) with
   | false=>rfl
   | true=>
    have e4:b=b':=((Zf8 _ _).1 e3).1;rw [e4] at h1;exact absurd hb' h1.1
theorem Zp8 {N:Nat}{xs:List RecD}{ls:List Lk}{node:Int}(h:IdOk N xs)(hn:1<=node/\node<=6)(hin:∀ x∈xs,x.kind=2->x.owner=node->x.area∈ZaB ls node):wbyD (ZaB ls node) node xs (ZaB ls node)=beyD xs (ZaB ls node) node:=by
 have hI:=WInv.all h hn (al:=ZaB ls node) (fun b hb=>ZdY hb) (ZcB ls node) (ZaB ls node) [] xs (by simpa using ZcU ls node) (fun b hb=>by simpa using hb) (by simpa using ZcB ls node) ⟨h.asc,by simp,fun x=>by simp⟩
 rw [List.nil_append] at hI;refine ZfE hI.asc ?_ (fun x=>?_)
 ·unfold beyD
  rw [ZgF];exact ZdT _ _ (List.Pairwise.filter _ h.asc)
 ·rw [hI.mem x]
  unfold beyD;rw [ZgF,Zdw _ _ _ (Zee xs _ node _ (ZcU ls node))];have hmem:(x∈(Za7 xs (ZaB ls node) node (ZaB ls node)).map seq1)↔∃ a∈ZaB ls node,x∈(tolD xs (ZaB ls node) node a).map Zca:=by
   constructor
   ·intro hx
    obtain⟨r,hr,rfl⟩:=List.mem_map.1 hx;unfold Za7 at hr;obtain⟨a,ha,hra⟩:=List.mem_flatMap.1 hr;refine⟨a,ha,List.mem_map.2 ⟨r,hra,?_⟩⟩
    obtain⟨to,c,rfl,_⟩:=Zdk hra
    rfl
   ·rintro ⟨a,ha,hx⟩
    obtain⟨r,hr,rfl⟩:=List.mem_map.1 hx;refine List.mem_map.2 ⟨r,?_,?_⟩
    ·unfold Za7
     exact List.mem_flatMap.2 ⟨a,ha,hr⟩
    ·obtain ⟨to,c,rfl,_⟩:=Zdk hr
     rfl
  rw [hmem,List.mem_filter]
  constructor
  ·rintro (⟨hx,hc⟩ | hx)
   ·have hh:ZbI node x=true:=by
     unfold ZbI;cases e1:(x.kind != 2) with
     | true=>rfl
     | false=>
      cases e2:(x.owner != node) with
      | true=>rfl
      | false=>
       simp at e1 e2
       exact absurd ⟨e1,e2,hin x hx e1 e2⟩ hc
    refine .inr ⟨⟨hx,hh⟩,fun t ht=>?_⟩
    obtain⟨r,hr,rfl⟩:=List.mem_map.1 ht;obtain⟨a,to,c,_,rfl,_⟩:=Zcg hr;cases e3:Zaw x (seq1 (ZbC a node to c)) with
    | false=>rfl
    | true=>
     have e4:=(Zf8 _ _).1 e3;have e5:x.kind=2:=e4.2.1;have e6:x.owner=node:=e4.2.2.1;unfold ZbI at hh;simp [e5,e6] at hh
   ·exact .inl hx
  ·rintro (hx | ⟨⟨hx,hh⟩,_⟩)
   ·exact .inr hx
   ·refine .inl ⟨hx,fun ⟨e1,e2,_⟩=>?_⟩
    unfold ZbI at hh;simp [e1,e2] at hh
def Zim (ls:List Lk)(xs:List RecD):Prop:=∀ x∈xs,x.kind=2->x.area∈ZaB ls x.owner
theorem Zim.bey {ls:List Lk}{xs:List RecD}{node:Int}(h:Zim ls xs):Zim ls (beyD xs (ZaB ls node) node):=by
 intro x hx hk;unfold beyD at hx;rw [ZgF,Zdw _ _ _ (Zee xs _ node _ (ZcU ls node))] at hx
 rcases hx with hx | ⟨hx,_⟩
 ·obtain ⟨r,hr,rfl⟩:=List.mem_map.1 hx
  obtain⟨a,to,c,ha,rfl,_⟩:=Zcg hr;exact ha
 ·exact h x (List.mem_filter.1 hx).1 hk
theorem iC_eq {N:Nat}{n:Int}{ls:List Lk}{zs:List Bool}{xs:List RecD}(hl:∀ l∈ls,ZaY n l=true)(h:IdOk N xs)(hh:Zim ls xs):∀ k,k<=6->iC ls (upsK zs k) xs=idC ls zs xs k/\Zim ls (idC ls zs xs k)
 | 0,_=>⟨rfl,hh⟩
 | k+1,hk=>by
  obtain⟨e,hi⟩:=iC_eq hl h hh k (by omega)
  have hio:=ZmQ (ls:=ls) (zs:=zs) h k (by omega)
  have e1:iC ls (upsK zs (k+1)) xs=(if upB zs k then ZgI ls (idC ls zs xs k) ((k:Int)+1) else idC ls zs xs k):=by
   show iC ls (upsK zs k++(if upB zs k then [(k:Int)+1] else [])) xs=_
   unfold iC at *;rw [List.foldl_append,e];cases upB zs k <;> rfl
  have e2:ZgI ls (idC ls zs xs k) ((k:Int)+1)=if Ze9 ls ((k:Int)+1) then beyD (idC ls zs xs k) (ZaB ls ((k:Int)+1)) ((k:Int)+1) else idC ls zs xs k:=by
   unfold ZgI;rw [Zmq hl,ZdP hl,Zp8 hio (by omega) (fun x hx hk ho=>by rw [<-ho];exact hi x hx hk)]
  have e3:idC ls zs xs (k+1)=if upB zs k&&Ze9 ls ((k:Int)+1) then beyD (idC ls zs xs k) (ZaB ls ((k:Int)+1)) ((k:Int)+1) else idC ls zs xs k:=rfl
  refine⟨?_,?_⟩
  ·rw [e1,e2,e3]
   cases upB zs k <;> cases Ze9 ls ((k:Int)+1) <;> rfl
  ·rw [e3]
   split
   ·exact hi.bey
   ·exact hi
theorem iR_eq {N:Nat}{n:Int}{ls:List Lk}{zs:List Bool}{xs:List RecD}(hN:N<=6)(hl:∀ l∈ls,ZaY n l=true)(h:IdOk N xs)(hh:Zim ls xs):∀ r,iR ls (upsK zs N) xs r=idR ls zs N xs r/\Zim ls (idR ls zs N xs r)
 | 0=>⟨rfl,hh⟩
 | r+1=>by
  obtain⟨e,hi⟩:=iR_eq hN hl h hh r;have ho:=Zpm (ls:=ls) (zs:=zs) hN h r;have h1:=iC_eq (zs:=zs) hl ho hi N hN;refine⟨?_,h1.2⟩
  show iC ls (upsK zs N) (iR ls (upsK zs N) xs r)=idC ls zs (idR ls zs N xs r) N
  rw [e];exact h1.1
theorem Zgn {α:Type}{ord:α->α->Int}(tr:∀ x y z,ord x y<0->ord y z<0->ord x z<0){ls:List α}(h:ascB ord ls=true):ls.Pairwise (fun x y=>ord x y<0):=by
 have step:∀ k (hk:k+1<ls.length),ord (ls[k]'(by omega)) ls[k+1]<0:=fun k hk=>by
  have h1:Zb0 ord ls (k+1)=true:=List.all_eq_true.1 h (k+1) (List.mem_range.2 hk);rw [ZbW (List.getElem?_eq_getElem (by omega)) (List.getElem?_eq_getElem hk)] at h1
  exact of_decide_eq_true h1
 have all:∀ (d i:Nat) (hd:i+d+1<ls.length),ord (ls[i]'(by omega)) ls[i+d+1]<0:=by
  intro d
  induction d with
  | zero=>intro i hd;exact step i hd
  | succ d ih=>
   intro i hd;exact tr _ _ _ (ih i (by omega)) (step (i+d+1) (by omega))
 rw [List.pairwise_iff_getElem];intro i j hi hj hij;have:=all (j-i-1) i (by omega)
 have e:i+(j-i-1)+1=j:=by omega
 simpa [e] using this
theorem Zni (l m:Lk):ordL l m<0↔l.a<m.a\/l.a=m.a/\(l.b<m.b\/l.b=m.b/\l.r<m.r):=by
 unfold ordL orN orN orN orN cmpN
 split <;> (try split) <;> (try split) <;> (try split) <;> (try split) <;> (try split) <;> (try split) <;> omega
theorem Zka (l m:Th):ordT l m<0↔l.k<m.k\/l.k=m.k/\l.o<m.o:=by
 unfold ordT orN orN orN cmpN
 split <;> (try split) <;> (try split) <;> (try split) <;> (try split) <;> (try split) <;> omega
theorem ZlG {n:Int}{ls:List Lk}(h:Zb4 n ls=true):ls.Pairwise (fun x y=>ordL x y<0):=by
 unfold Zb4 at h;simp only [Bool.and_eq_true] at h
 exact Zgn (fun x y z h1 h2=>by rw [Zni] at *;omega) h.2
theorem Zkk {n:Int}{ts:List Th}(h:ZbA n ts=true):ts.Pairwise (fun x y=>ordT x y<0):=by
 unfold ZbA at h;simp only [Bool.and_eq_true] at h
 exact Zgn (fun x y z h1 h2=>by rw [Zka] at *;omega) h.2
theorem Zom {n:Int}{ls:List Lk}(h:Zb4 n ls=true){f t r:Int}{l m:Lk}(hl:l∈ls)(hm:m∈ls)(h1:Zbx f t r l=true)(h2:Zbx f t r m=true):l=m:=by
 have hp:=ZlG h;have ho:=Zk0 h;have key:∀ x y:Lk,x∈ls->y∈ls->Zbx f t r x=true->Zbx f t r y=true->¬ordL x y<0:=fun x y hx hy k1 k2 hlt=>by
  have o1:=ho x hx;have o2:=ho y hy;unfold ZaY at o1 o2;simp only [Bool.and_eq_true,decide_eq_true_eq] at o1 o2
  unfold Zbx at k1 k2;simp only [Bool.and_eq_true,Bool.or_eq_true,beq_iff_eq] at k1 k2
  rw [Zni] at hlt;omega
 obtain⟨i,hi⟩:=List.getElem?_of_mem hl;obtain⟨j,hj⟩:=List.getElem?_of_mem hm;obtain⟨hi1,hi2⟩:=List.getElem?_eq_some_iff.1 hi;obtain⟨hj1,hj2⟩:=List.getElem?_eq_some_iff.1 hj
 rcases Nat.lt_trichotomy i j with e | e | e
 ·have:=List.pairwise_iff_getElem.1 hp i j hi1 hj1 e
  rw [hi2,hj2] at this;exact absurd this (key l m hl hm h1 h2)
 ·subst e
  rw [hi] at hj;exact Option.some.inj hj
 ·have:=List.pairwise_iff_getElem.1 hp j i hj1 hi1 e
  rw [hi2,hj2] at this;exact absurd this (key m l hm hl h2 h1)
theorem ZoM {n:Int}{ls:List Lk}{bs:List Bool}(h:Zb4 n ls=true){f t r:Int}(hu:lkUp ls bs f t r=true):ZcS ls bs f t r=Zcw ls f t r/\0<ZcS ls bs f t r:=by
 unfold lkUp at hu;obtain⟨x,hx,hh⟩:=List.any_eq_true.1 hu;unfold ZcS;cases hf:(ls.zip bs).find? (ZdH f t r) with
 | none=>exact absurd hh (by simpa using List.find?_eq_none.1 hf x hx)
 | some y=>
  have hy:=List.mem_of_find?_eq_some hf;have hyh:=List.find?_some hf;have hyl:y.1∈ls:=(List.of_mem_zip (a:=y.1) (b:=y.2) hy).1;have hyk:Zbx f t r y.1=true:=by unfold ZdH at hyh;simp only [Bool.and_eq_true] at hyh;exact hyh.2
  have hok:=Zk0 h y.1 hyl;unfold ZaY inB at hok;simp only [Bool.and_eq_true,decide_eq_true_eq] at hok
  unfold Zcw;cases hg:ls.find? (Zbx f t r) with
  | none=>exact absurd hyk (by simpa using List.find?_eq_none.1 hg y.1 hyl)
  | some m=>
   have e:=Zom h (List.mem_of_find?_eq_some hg) hyl (List.find?_some hg) hyk;subst e;simp
   omega
theorem ZoL {ls:List Lk}{bs:List Bool}{f t r:Int}(hu:lkUp ls bs f t r=false):ZcS ls bs f t r=0:=by
 unfold lkUp at hu;unfold ZcS;rw [List.find?_eq_none.2 (fun x hx=>by have:=List.any_eq_false.1 hu x hx;simpa using this)]
 rfl
theorem Zfu:∀ (l m:List Int),l.length%2=0->ZaJ (l++m)=ZaJ l++ZaJ m
 | [],m,_=>by simp [ZaJ]
 | [a],m,h=>by simp at h
 | a::b::l,m,h=>by
  have h1:l.length%2=0:=by simp at h;omega
  have:=Zfu l m h1
  show (a,b)::ZaJ (l++m)=(a,b)::ZaJ l++ZaJ m
  rw [this]
  rfl
theorem ZiQ (f:Int->Int->Bool)(u:Int):∀ c,(hrdA f u c).length%2=0
 | 0=>rfl
 | c+1=>by
  have:=ZiQ f u c;unfold hrdA;rw [List.length_append]
  split <;> simp <;> omega
theorem ZiR (f:Int->Int->Bool):∀ k,(hrdK f k).length%2=0
 | 0=>rfl
 | k+1=>by
  have h1:=ZiR f k;have h2:=ZiQ f ((k:Int)+1) 3;unfold hrdK;rw [List.length_append];omega
theorem Zlt (ls:List Lk)(v a:Int)(l m:List (Int × Int)):hinD ls v a (l++m)=hinD ls v a l++hinD ls v a m:=by
 unfold hinD;rw [List.filter_append,List.map_append]
theorem hin_A (ls:List Lk)(f:Int->Int->Bool)(v u a:Int)(ha:a=0\/a=1\/a=2):hinD ls v a (ZaJ (hrdA f u 3))=if f u a then [⟨u,Zcw ls v u a⟩] else []:=by
 have e:hrdA f u 3=(if f u 0 then [u,0] else [])++((if f u 1 then [u,1] else [])++(if f u 2 then [u,2] else [])):=by
  simp [hrdA]
 rw [e]
 rcases ha with rfl | rfl | rfl <;> cases h0:f u 0 <;> cases h1:f u 1 <;> cases h2:f u 2 <;> simp [hinD,ZaJ,h0,h1,h2]
theorem ZhQ {n:Int}{N:Nat}{ls:List Lk}{bs zs:List Bool}{v a:Int}(h:Zb4 n ls=true)(hv:upI N zs v=true)(ha:a=0\/a=1\/a=2):∀ k,k<=N->hinD ls v a (ZaJ (hrdK (carB N ls bs zs v) k))=ZbP ls bs zs v a k
 | 0,_=>rfl
 | k+1,hk=>by
  have ih:=ZhQ (bs:=bs) h hv ha k (by omega)
  show hinD ls v a (ZaJ (hrdK (carB N ls bs zs v) k++hrdA (carB N ls bs zs v) ((k:Int)+1) 3))=_
  rw [Zfu _ _ (ZiR _ k),Zlt,ih,hin_A _ _ _ _ _ ha];have hu:upI N zs ((k:Int)+1)=upB zs k:=by
   unfold upI;rw [show inB ((k:Int)+1) 1 (N:Int)=true by simp [inB];omega,show ((k:Int)+1-1).toNat=k by omega]
   rfl
  have hc:carB N ls bs zs v ((k:Int)+1) a=(upB zs k&&lkUp ls bs v ((k:Int)+1) a):=by
   unfold carB;rw [hv,hu];simp
  rw [hc]
  show _=ZbP ls bs zs v a k++_
  congr 1
  cases hb:lkUp ls bs v ((k:Int)+1) a with
  | false=>rw [ZoL hb];simp
  | true=>
   obtain⟨e1,e2⟩:=ZoM h hb;rw [decide_eq_true e2, <-e1];cases upB zs k <;> simp
theorem Zfn {ls:List Lk}{v a:Int}(h:a∈ZaB ls v):a=0\/a=1\/a=2:=by
 have:=ZdY h;omega
def ZdG (ls:List Lk)(bs zs:List Bool)(N:Nat)(v:Int):List RecD:=(ZaB ls v).map (fun a=>ZbU v a (ZbP ls bs zs v a N))
theorem ZgT (ls:List Lk)(bs zs:List Bool)(N:Nat)(v:Int)(al:List Int)(xs:List RecD):∀ j,j<=al.length->Ze8 ls bs zs N v al xs j=((al.take j).map (fun a=>ZbU v a (ZbP ls bs zs v a N))).foldl putD xs
 | 0,_=>by simp [Ze8]
 | j+1,hj=>by
  have ih:=ZgT ls bs zs N v al xs j (by omega)
  have ha:al[j]? = some al[j]:=List.getElem?_eq_getElem (by omega)
  rw [ZgU ha,ih,List.take_succ_eq_append_getElem (by omega),List.map_append,List.foldl_append]
  rfl
theorem ZkG (ls:List Lk)(bs zs:List Bool)(N:Nat):∀ k,idA ls bs zs N k=((upsK zs k).flatMap (ZdG ls bs zs N)).foldl putD []
 | 0=>rfl
 | k+1=>by
  have ih:=ZkG ls bs zs N k;have e1:idA ls bs zs N (k+1)=if upB zs k then Ze8 ls bs zs N ((k:Int)+1) (ZaB ls ((k:Int)+1)) (idA ls bs zs N k) (ZaB ls ((k:Int)+1)).length else idA ls bs zs N k:=rfl
  have e2:upsK zs (k+1)=upsK zs k++(if upB zs k then [(k:Int)+1] else []):=rfl
  rw [e1,e2,List.flatMap_append,List.foldl_append, <-ih];cases hu:upB zs k with
  | false=>simp
  | true=>
   simp only [if_true]
   rw [ZgT _ _ _ _ _ _ _ _ (Nat.le_refl _),List.take_length];simp [ZdG]
theorem ZkH (ts:List Th)(zs:List Bool)(xs:List RecD):∀ k,idB ts zs xs k=(((ts.take k).filter (fun t=>upB zs (t.o-1).toNat)).map Zb7).foldl putD xs
 | 0=>rfl
 | k+1=>by
  have ih:=ZkH ts zs xs k
  rcases Nat.lt_or_ge k ts.length with hk | hk
  ·have ht:ts[k]? = some ts[k]:=List.getElem?_eq_getElem hk
   have e1:idB ts zs xs (k+1)=if upB zs (ts[k].o-1).toNat then putD (idB ts zs xs k) (Zb7 ts[k]) else idB ts zs xs k:=by
    show (match ts[k]? with | some t=>_ | none=>_)=_
    rw [ht]
   rw [e1,ih,List.take_succ_eq_append_getElem hk,List.filter_append,List.map_append,List.foldl_append];obtain⟨q,hq⟩:∃ q,q=ts[k]:=⟨_,rfl⟩;rw [<-hq];generalize hf:(fun t:Th=>upB zs (t.o-1).toNat)=f
   have hfq:upB zs (q.o-1).toNat=f q:=by rw [<-hf]
   rw [hfq];cases hu:f q with
   | false=>simp [hu]
   | true=>simp [hu]
  ·have e1:idB ts zs xs (k+1)=idB ts zs xs k:=by
    show (match ts[k]? with | some t=>_ | none=>_)=_
    rw [List.getElem?_eq_none hk]
   rw [e1,ih,List.take_of_length_le hk,List.take_of_length_le (by omega)]
theorem ZmD {a b:List RecD}(ha:a.Pairwise difK)(hb:b.Pairwise difK)(h:∀ x,x∈a↔x∈b):a.foldl putD []=b.foldl putD []:=by
 refine ZfE (ZdT _ _ (by simp [Asc])) (ZdT _ _ (by simp [Asc])) (fun x=>?_)
 rw [Zdw _ _ _ ha,Zdw _ _ _ hb,h x];simp
theorem ZeR {zs:List Bool}{v:Int}:∀ {k:Nat},v∈upsK zs k↔∃ j:Nat,j<k/\v=(j:Int)+1/\upB zs j=true
 | 0=>by simp [upsK]
 | k+1=>by
  have ih:=ZeR (zs:=zs) (v:=v) (k:=k)
  show v∈upsK zs k++(if upB zs k then [(k:Int)+1] else [])↔_
  rw [List.mem_append,ih]
  constructor
  ·rintro (⟨j,h1,h2,h3⟩ | h)
   ·exact ⟨j,by omega,h2,h3⟩
   ·cases hu:upB zs k with
    | false=>rw [hu] at h;simp at h
    | true=>rw [hu] at h;exact⟨k,by omega,by simpa using h,hu⟩
  ·rintro ⟨j,h1,h2,h3⟩
   rcases Nat.lt_or_ge j k with e | e
   ·exact .inl ⟨j,e,h2,h3⟩
   ·have:j=k:=by omega
    subst this;exact .inr (by rw [h3];simpa using h2)
theorem Zfk (zs:List Bool):∀ k,(upsK zs k).Pairwise (fun a b=>a≠b)
 | 0=>by simp [upsK]
 | k+1=>by
  show (upsK zs k++(if upB zs k then [(k:Int)+1] else [])).Pairwise _
  rw [List.pairwise_append];refine⟨Zfk zs k,by split <;> simp,fun a ha b hb e=>?_⟩
  obtain⟨j,h1,h2,_⟩:=ZeR.1 ha
  split at hb
  ·have:b=(k:Int)+1:=by simpa using hb
   omega
  ·cases hb
theorem ZeF {x y:RecD}(h:x.area≠y.area\/x.kind≠y.kind\/x.owner≠y.owner\/x.key≠y.key):difK x y:=by
 unfold difK;cases e:Zaw x y with
 | false=>rfl
 | true=>
  have:=(Zf8 x y).1 e
  rcases h with h | h | h | h
  ·exact absurd this.1 h
  ·exact absurd this.2.1 h
  ·exact absurd this.2.2.1 h
  ·exact absurd this.2.2.2 h
theorem Zis (ls:List Lk)(v:Int):(ZaB ls v).Pairwise (fun a b=>a≠b):=ZcU ls v
theorem ZjO {N:Nat}{ls:List Lk}{ts:List Th}{bs zs:List Bool}(hok:Zbl ⟨(N:Int),ls,ts⟩=true):iA N ls ts bs zs (upsK zs N)=idB ts zs (idA ls bs zs N N) ts.length:=by
 simp only [Zbl,Bool.and_eq_true] at hok
 obtain⟨⟨h1,h2⟩,h3⟩:=hok;have hl:=Zk0 h2;have ht:=Znf h3;have htp:=Zkk h3;have e1:iA N ls ts bs zs (upsK zs N)=((upsK zs N).flatMap (tofD N ls ts bs zs)).foldl putD []:=by
  unfold iA;have h:∀ (us:List Int) (s:List RecD),us.foldl (fun s v=>(tofD N ls ts bs zs v).foldl putD s) s=(us.flatMap (tofD N ls ts bs zs)).foldl putD s:=by
   intro us
   induction us with
   | nil=>intro s;rfl
   | cons u us ih=>intro s;rw [List.foldl_cons,ih,List.flatMap_cons,List.foldl_append]
  exact h _ _
 rw [e1,ZkH,ZkG,List.take_length, <-List.foldl_append];have hth:∀ t∈ts,(1<=t.o/\t.o<=(N:Int)):=fun t hin=>by
  have:=ht t hin;unfold Zdp inB at this;simp only [Bool.and_eq_true,decide_eq_true_eq] at this
  omega
 have htof:∀ v∈upsK zs N,∀ x,x∈tofD N ls ts bs zs v↔(x∈ZdG ls bs zs N v\/∃ t∈ts,t.o=v/\x=Zb7 t):=fun v hv x=>by
  have hup:upI N zs v=true:=by
   obtain⟨j,j1,rfl,j3⟩:=ZeR.1 hv;unfold upI;rw [show inB ((j:Int)+1) 1 (N:Int)=true by simp [inB];omega,show ((j:Int)+1-1).toNat=j by omega,j3]
   rfl
  unfold tofD;rw [List.map_append,List.mem_append,ZdP hl];refine or_congr ?_ ?_
  ·unfold ZdG nodD
   rw [List.map_map,List.mem_map,List.mem_map]
   constructor
   ·rintro ⟨a,ha,rfl⟩
    refine⟨a,ha,?_⟩
    rw [<-ZhQ h2 hup (Zfn ha) N (Nat.le_refl _)]
    rfl
   ·rintro ⟨a,ha,rfl⟩
    refine⟨a,ha,?_⟩
    rw [<-ZhQ h2 hup (Zfn ha) N (Nat.le_refl _)]
    rfl
  ·unfold Zey
   rw [List.map_map,List.mem_map]
   constructor
   ·rintro ⟨t,ht1,rfl⟩
    have h9:=List.mem_filter.1 ht1;have h10:t.o=v:=eq_of_beq h9.2;refine⟨t,h9.1,h10,?_⟩
    show Zca (thgD v t)=Zb7 t
    unfold Zca thgD Zb7;rw [h10]
   ·rintro ⟨t,ht1,ho,rfl⟩
    refine⟨t,List.mem_filter.2 ⟨ht1,beq_iff_eq.2 ho⟩,?_⟩
    show Zca (thgD v t)=Zb7 t
    unfold Zca thgD Zb7;rw [ho]
 have hown:∀ v∈upsK zs N,∀ x∈tofD N ls ts bs zs v,x.owner=v:=fun v hv x hx=>by
  rcases (htof v hv x).1 hx with h | ⟨t,_,ho,rfl⟩
  ·unfold ZdG at h
   obtain⟨a,_,rfl⟩:=List.mem_map.1 h
   rfl
  ·exact ho
 refine ZmD ?_ ?_ (fun x=>?_)
 ·rw [List.pairwise_flatMap]
  refine⟨fun v hv=>?_,(Zfk zs N).imp_of_mem (fun {a b} ha hb hab x hx y hy=>ZeF (.inr (.inr (.inl (by rw [hown a ha x hx,hown b hb y hy];exact hab)))))⟩
  unfold tofD;rw [List.map_append,List.pairwise_append,ZdP hl];refine⟨?_,?_,fun x hx y hy=>?_⟩
  ·unfold nodD
   rw [List.map_map,List.pairwise_map];exact (Zis ls v).imp (fun h=>ZeF (.inl h))
  ·unfold Zey
   rw [List.map_map,List.pairwise_map];refine (htp.filter _).imp_of_mem (fun {a b} ha hb hab=>ZeF (.inr (.inr (.inr ?_))))
   have o1:a.o=v:=eq_of_beq (List.mem_filter.1 ha).2;have o2:b.o=v:=eq_of_beq (List.mem_filter.1 hb).2
   show a.k≠b.k
   have:=(Zka a b).1 hab;omega
  ·unfold nodD at hx
   unfold Zey at hy;rw [List.map_map] at hx hy;obtain⟨a,_,rfl⟩:=List.mem_map.1 hx;obtain⟨t,_,rfl⟩:=List.mem_map.1 hy;exact ZeF (.inr (.inl (by show (1:Int)≠3;decide)))
 ·rw [List.pairwise_append,List.pairwise_flatMap]
  refine⟨⟨fun v hv=>?_,(Zfk zs N).imp (fun {a b} hab x hx y hy=>?_)⟩,?_,fun x hx y hy=>?_⟩
  ·unfold ZdG
   rw [List.pairwise_map];exact (Zis ls v).imp (fun h=>ZeF (.inl h))
  ·unfold ZdG at hx hy
   obtain⟨_,_,rfl⟩:=List.mem_map.1 hx;obtain⟨_,_,rfl⟩:=List.mem_map.1 hy;exact ZeF (.inr (.inr (.inl hab)))
  ·rw [List.pairwise_map]
   refine (htp.filter _).imp (fun {a b} hab=>?_)
   have:=(Zka a b).1 hab
   rcases this with h | ⟨h,h'⟩
   ·exact ZeF (.inr (.inr (.inr (by show a.k≠b.k;omega))))
   ·exact ZeF (.inr (.inr (.inl (by show a.o≠b.o;omega))))
  ·obtain ⟨v,_,hx2⟩:=List.mem_flatMap.1 hx
   unfold ZdG at hx2;obtain⟨_,_,rfl⟩:=List.mem_map.1 hx2;obtain⟨_,_,rfl⟩:=List.mem_map.1 hy;exact ZeF (.inr (.inl (by show (1:Int)≠3;decide)))
 ·rw [List.mem_append,List.mem_flatMap,List.mem_flatMap,List.mem_map]
  constructor
  ·rintro ⟨v,hv,hx⟩
   rcases (htof v hv x).1 hx with h | ⟨t,ht1,ho,rfl⟩
   ·exact .inl ⟨v,hv,h⟩
   ·refine .inr ⟨t,List.mem_filter.2 ⟨ht1,?_⟩,rfl⟩
    obtain⟨j,j1,j2,j3⟩:=ZeR.1 hv;rw [show (t.o-1).toNat=j by omega]
    exact j3
  ·rintro (⟨v,hv,hx⟩ | ⟨t,ht1,rfl⟩)
   ·exact ⟨v,hv,(htof v hv x).2 (.inl hx)⟩
   ·have h9:=List.mem_filter.1 ht1
    have h10:=hth t h9.1;have hv:t.o∈upsK zs N:=ZeR.2 ⟨(t.o-1).toNat,by omega,by omega,h9.2⟩
    exact⟨t.o,hv,(htof t.o hv _).2 (.inr ⟨t,h9.1,rfl,rfl⟩)⟩
theorem Zoq {N:Nat}{ls:List Lk}{ts:List Th}{bs zs:List Bool}(hok:Zbl ⟨(N:Int),ls,ts⟩=true):iR ls (upsK zs N) (iA N ls ts bs zs (upsK zs N)) 3=ZiS ls ts bs zs N:=by
 have hok':=hok;simp only [Zbl,Bool.and_eq_true] at hok
 obtain⟨⟨h1,h2⟩,h3⟩:=hok;have hN:N<=6:=by simp only [inB,Bool.and_eq_true,decide_eq_true_eq] at h1;omega
 have hl:=Zk0 h2;have ht:=Znf h3;have htl:ts.length<=4:=by
  unfold ZbA at h3;simp only [Bool.and_eq_true,decide_eq_true_eq] at h3
  exact h3.1.1
 have hA:=ZmO (bs:=bs) (zs:=zs) hl hN N hN;have hB:=ZmP (zs:=zs) (by omega) ht hA ts.length
 have hok2:IdOk N (idB ts zs (idA ls bs zs N N) ts.length):=⟨hB.asc,hB.ok,by have:=hB.own;omega,fun u=>by rw [hB.his u];omega⟩
 have hh:Zim ls (idB ts zs (idA ls bs zs N N) ts.length):=fun x hx hk=>by
  have h9:=hB.his x.owner;unfold cntR at h9;have h10:=List.filter_eq_nil_iff.1 (List.length_eq_zero_iff.1 h9) x hx;exact absurd (by unfold hisR;simp [hk]) h10
 rw [ZjO hok'];exact (iR_eq (zs:=zs) hN hl hok2 hh 3).1
def ZcX (x:NetD)(bs zs:List Bool):Bool:=Zbl x&&(decide (bs.length=x.ls.length)&&decide ((zs.length:Int)=x.n))
noncomputable def Zg1 (x:NetD) (bs zs:List Bool):List RecD:=if ZcX x bs zs then ZiS x.ls x.ts bs zs x.n.toNat else []
theorem ZiZ {x:NetD}(h:Zbl x=true):1<=x.n/\x.n<=6/\x.ls.length<=12/\x.ts.length<=4/\∀ t∈x.ts,1<=t.o/\t.o<=x.n:=by
 simp only [Zbl,Bool.and_eq_true] at h
 obtain⟨⟨h1,h2⟩,h3⟩:=h;have ht:=Znf h3;have h4:=h2;have h5:=h3;unfold Zb4 at h4;unfold ZbA at h5;simp only [Bool.and_eq_true,decide_eq_true_eq] at h4 h5
 simp only [inB,Bool.and_eq_true,decide_eq_true_eq] at h1
 refine⟨h1.1,h1.2,h4.1.1,h5.1.1,fun t hin=>?_⟩
 have:=ht t hin;unfold Zdp inB at this;simp only [Bool.and_eq_true,decide_eq_true_eq] at this
 omega
theorem Zki (v1 v2 y z:Value)(x:NetD)(bs zs:List Bool)(w:World)(hl:x.ls.length<=1048576)(ht:x.ts.length<=1048576)(hbl:bs.length<=1048576)(hzl:zs.length<=1048576)(h1:w.ownsRow 0 174 4 v1 x.ls.length (flat lkE x.ls))(h2:ZaV w v2 x.ts w.heap.size)(h3:Zba w y bs w.heap.size)(h4:Zba w z zs w.heap.size):
  Calls Tryz.prog 23 #[.agg #[.int .i64 x.n,v1,v2],y,z] w fun e w'=>∃ o qs,e=.returned (.tuple #[o,.bool (ZcX x bs zs)])/\fsts qs=Zg1 x bs zs/\tot qs<=2000/\RecsOwn w' w.heap.size w'.heap.size o qs/\Below w.heap.size w w':=by
 by_cases hB:ZcX x bs zs=true
 ·unfold Zg1
  rw [hB,if_pos rfl];unfold ZcX at hB;simp only [Bool.and_eq_true,decide_eq_true_eq] at hB
  obtain⟨k1,k2,k3,k4,k5⟩:=ZiZ hB.1;obtain⟨n,ls,ts⟩:=x;simp only [] at *
  obtain⟨N,rfl⟩:∃ N:Nat,n=(N:Int):=⟨n.toNat,by omega⟩
  rw [show ((N:Int)).toNat=N by omega]
  refine (Zl3 v1 v2 y z N ls ts bs zs w hB.1 (by omega) (by omega) k3 k4 k5 (Zap h1) h2 h3 h4 hB.2.1 (by omega)).mono ?_
  rintro e w' ⟨o,qs,h5,h6,h7,h8,h9⟩;exact⟨o,qs,h5,h6,by omega,h8,h9⟩
 have hB:ZcX x bs zs=false:=by cases e:ZcX x bs zs with
  | false=>rfl
  | true=>exact absurd e hB
 unfold Zg1;rw [hB];simp only [Bool.false_eq_true,if_false]
 obtain⟨n,ls,ts⟩:=x;simp only [] at *
 have hL:ZaS w v1 ls w.heap.size:=Zap h1;obtain⟨a1,c1,rfl⟩:=Zac h1;obtain⟨a2,c2,rfl⟩:=ZaV.shape h2;obtain⟨a3,c3,rfl⟩:=h3.shape;obtain⟨a4,c4,rfl⟩:=h4.shape;have HNO:=hide (fun W (hb:Below w.heap.size w W)=>Zhg (.agg #[.int .i64 n,.slice a1 ls.length c1,.slice a2 ts.length c2]) ⟨n,ls,ts⟩ W hl ht ⟨_,_,rfl,ZaE.then hL hb,ZaE.then h2 hb⟩)
 have GX:=hide (show ((w.alloc (.cells #[.int .i64 n,.slice a1 ls.length c1,.slice a2 ts.length c2] 27)).alloc (.cells #[] 39)).heap[w.heap.size]? = some (.cells #[.int .i64 n,.slice a1 ls.length c1,.slice a2 ts.length c2] 27) by rw [Below.heap_alloc _ _ _ (by simp),heap_alloc_new])
 have RX:=hide (show RecsOwn ((w.alloc (.cells #[.int .i64 n,.slice a1 ls.length c1,.slice a2 ts.length c2] 27)).alloc (.cells #[] 39)) w.heap.size ((w.alloc (.cells #[.int .i64 n,.slice a1 ls.length c1,.slice a2 ts.length c2] 27)).alloc (.cells #[] 39)).heap.size (.slice (some ⟨w.heap.size+1,0,none⟩) 0 0) [] by
  have h:=Zct (w.alloc (.cells #[.int .i64 n,.slice a1 ls.length c1,.slice a2 ts.length c2] 27)) w.heap.size (by simp)
  rw [show (w.alloc (.cells #[.int .i64 n,.slice a1 ls.length c1,.slice a2 ts.length c2] 27)).heap.size=w.heap.size+1 by simp] at h
  exact h)
 have BX:Below w.heap.size w ((w.alloc (.cells #[.int .i64 n,.slice a1 ls.length c1,.slice a2 ts.length c2] 27)).alloc (.cells #[] 39)):=Zas _ _;clear h1 h2 h3 h4 hL;cases hok:Zbl ⟨n,ls,ts⟩ with
 | false=>
  have HOK:=hide hok;clear hok hB
  go_enter Tryz.func23,Tryz.ntmps23
  go_wp2_with fail
  refine (HNO.out _ BX).mono ?_
  rintro e w2 ⟨rfl,b2⟩;rw [HOK.out];have B2:Below w.heap.size w w2:=BX.trans (b2.mono BX.size);have g2:=(b2.block _ (Zab GX.out)).trans GX.out;have y0:=Zaa g2 0;have y1:=Zaa g2 1;simp at y0 y1
  have R2:=hide ((RX.out.below b2 (Nat.le_refl _)).wide (Nat.le_refl _) b2.size);clear g2 b2
  go_wp2
  go_ret2
  exact⟨_,[],rfl,rfl,by simp [tot],R2.out,B2⟩
 | true=>
  have HOK:=hide hok;unfold ZcX at hB;simp only [hok,Bool.true_and,Bool.and_eq_false_iff,decide_eq_false_iff_not] at hB
  clear hok;by_cases hlen:bs.length=ls.length
  ·have hup:((zs.length:Int) != n)=true:=by
    rcases hB with h | h
    ·exact absurd hlen h
    ·simpa using h
   rw [hlen] at *;clear hB hlen
   go_enter Tryz.func23,Tryz.ntmps23
   go_wp2_with fail
   refine (HNO.out _ BX).mono ?_
   rintro e w2 ⟨rfl,b2⟩;rw [HOK.out];have B2:Below w.heap.size w w2:=BX.trans (b2.mono BX.size);have g2:=(b2.block _ (Zab GX.out)).trans GX.out;have y0:=Zaa g2 0;have y1:=Zaa g2 1;simp at y0 y1
   have R2:=hide ((RX.out.below b2 (Nat.le_refl _)).wide (Nat.le_refl _) b2.size);clear g2 b2
   go_wp2
   go_ret2
   exact⟨_,[],rfl,rfl,by simp [tot],R2.out,B2⟩
  ·have hne:((bs.length:Int) != (ls.length:Int))=true:=by simp;omega
   clear hB hlen
   go_enter Tryz.func23,Tryz.ntmps23
   go_wp2_with fail
   refine (HNO.out _ BX).mono ?_
   rintro e w2 ⟨rfl,b2⟩;rw [HOK.out];have B2:Below w.heap.size w w2:=BX.trans (b2.mono BX.size);have g2:=(b2.block _ (Zab GX.out)).trans GX.out;have y0:=Zaa g2 0;have y1:=Zaa g2 1;simp at y0 y1
   have R2:=hide ((RX.out.below b2 (Nat.le_refl _)).wide (Nat.le_refl _) b2.size);clear g2 b2
   go_wp2
   go_ret2
   exact⟨_,[],rfl,rfl,by simp [tot],R2.out,B2⟩
theorem ZjP (v1 v2 y z:Value)(x:NetD)(bs zs:List Bool)(w:World)(hl:x.ls.length<=1048576)(ht:x.ts.length<=1048576)(hbl:bs.length<=1048576)(hzl:zs.length<=1048576)(h1:w.ownsRow 0 174 4 v1 x.ls.length (flat lkE x.ls))(h2:ZaV w v2 x.ts w.heap.size)(h3:Zba w y bs w.heap.size)(h4:Zba w z zs w.heap.size):
  Calls Tryz.prog 22 #[.agg #[.int .i64 x.n,v1,v2],y,z] w fun e w'=>∃ o qs,e=.returned (.tuple #[o,.bool (ZcX x bs zs)])/\fsts qs=Zg1 x bs zs/\tot qs<=2000/\RecsOwn w' w.heap.size w'.heap.size o qs/\Below w.heap.size w w':=by
 by_cases hB:ZcX x bs zs=true
 ·unfold Zg1
  rw [hB,if_pos rfl];unfold ZcX at hB;simp only [Bool.and_eq_true,decide_eq_true_eq] at hB
  obtain⟨k1,k2,k3,k4,k5⟩:=ZiZ hB.1;obtain⟨n,ls,ts⟩:=x;simp only [] at *
  obtain⟨N,rfl⟩:∃ N:Nat,n=(N:Int):=⟨n.toNat,by omega⟩
  rw [show ((N:Int)).toNat=N by omega]
  refine (Zlw v1 v2 y z N ls ts bs zs w hB.1 (by omega) k3 k4 h1 h2 h3 h4 hB.2.1 (by omega)).mono ?_
  rintro e w' ⟨o,qs,h5,h6,h7,h8,h9⟩;exact⟨o,qs,h5,by rw [h6];exact Zoq hB.1,by omega,h8,h9⟩
 have hB:ZcX x bs zs=false:=by cases e:ZcX x bs zs with
  | false=>rfl
  | true=>exact absurd e hB
 unfold Zg1;rw [hB];simp only [Bool.false_eq_true,if_false]
 obtain⟨n,ls,ts⟩:=x;simp only [] at *
 have hL:ZaS w v1 ls w.heap.size:=Zap h1;obtain⟨a1,c1,rfl⟩:=Zac h1;obtain⟨a2,c2,rfl⟩:=ZaV.shape h2;obtain⟨a3,c3,rfl⟩:=h3.shape;obtain⟨a4,c4,rfl⟩:=h4.shape;have HNO:=hide (fun W (hb:Below w.heap.size w W)=>Zg2 (.agg #[.int .i64 n,.slice a1 ls.length c1,.slice a2 ts.length c2]) ⟨n,ls,ts⟩ W hl ht ⟨_,_,rfl,ZaE.then hL hb,ZaE.then h2 hb⟩)
 have GX:=hide (heap_alloc_new w (.cells #[.int .i64 n,.slice a1 ls.length c1,.slice a2 ts.length c2] 27));have BX:Below w.heap.size w (w.alloc (.cells #[.int .i64 n,.slice a1 ls.length c1,.slice a2 ts.length c2] 27)):=(Below.refl _ _).alloc (Nat.le_refl _) _;clear h1 h2 h3 h4 hL;cases hok:Zbl ⟨n,ls,ts⟩ with
 | false=>
  have HOK:=hide hok;clear hok hB
  go_enter Tryz.func22,Tryz.ntmps22
  go_wp2_with fail
  refine (HNO.out _ BX).mono ?_
  rintro e w2 ⟨rfl,b2⟩;rw [HOK.out];have B2:Below w.heap.size w w2:=BX.trans (b2.mono BX.size);have g2:=(b2.block _ (Zab GX.out)).trans GX.out;have y0:=Zaa g2 0;have y1:=Zaa g2 1;simp at y0 y1
  have R2:=hide (Zct w2 w.heap.size B2.size);have B3:=hide (B2.alloc B2.size (.cells #[] 39));clear g2 b2
  go_wp2
  go_ret2
  exact⟨_,[],rfl,rfl,by simp [tot],R2.out,B3.out⟩
 | true=>
  have HOK:=hide hok;unfold ZcX at hB;simp only [hok,Bool.true_and,Bool.and_eq_false_iff,decide_eq_false_iff_not] at hB
  clear hok;by_cases hlen:bs.length=ls.length
  ·have hup:((zs.length:Int) != n)=true:=by
    rcases hB with h | h
    ·exact absurd hlen h
    ·simpa using h
   rw [hlen] at *;clear hB hlen
   go_enter Tryz.func22,Tryz.ntmps22
   go_wp2_with fail
   refine (HNO.out _ BX).mono ?_
   rintro e w2 ⟨rfl,b2⟩;rw [HOK.out];have B2:Below w.heap.size w w2:=BX.trans (b2.mono BX.size);have g2:=(b2.block _ (Zab GX.out)).trans GX.out;have y0:=Zaa g2 0;have y1:=Zaa g2 1;simp at y0 y1
   have R2:=hide (Zct w2 w.heap.size B2.size);have B3:=hide (B2.alloc B2.size (.cells #[] 39));clear g2 b2
   go_wp2
   go_ret2
   exact⟨_,[],rfl,rfl,by simp [tot],R2.out,B3.out⟩
  ·have hne:((bs.length:Int) != (ls.length:Int))=true:=by simp;omega
   clear hB hlen
   go_enter Tryz.func22,Tryz.ntmps22
   go_wp2_with fail
   refine (HNO.out _ BX).mono ?_
   rintro e w2 ⟨rfl,b2⟩;rw [HOK.out];have B2:Below w.heap.size w w2:=BX.trans (b2.mono BX.size);have g2:=(b2.block _ (Zab GX.out)).trans GX.out;have y0:=Zaa g2 0;have y1:=Zaa g2 1;simp at y0 y1
   have R2:=hide (Zct w2 w.heap.size B2.size);have B3:=hide (B2.alloc B2.size (.cells #[] 39));clear g2 b2
   go_wp2
   go_ret2
   exact⟨_,[],rfl,rfl,by simp [tot],R2.out,B3.out⟩
structure RowOwn (W:World) (lo hi:Nat) (t:TypeId) (sz:Nat) (v:Value) (n:Nat) (xs:List Value):Prop where
 row:W.ownsRow lo t sz v n xs
 top:∀ k,v.ownBlock=some k->k<hi
theorem RowOwn.of {W:World}{lo:Nat}{t:TypeId}{sz:Nat}{v:Value}{n:Nat}{xs:List Value}(h:W.ownsRow lo t sz v n xs):RowOwn W lo W.heap.size t sz v n xs:=⟨h,fun k hk=>(h.lt k hk).2⟩
theorem RowOwn.below {W W':World}{lo hi B:Nat}{t:TypeId}{sz:Nat}{v:Value}{n:Nat}{xs:List Value}(h:RowOwn W lo hi t sz v n xs)(hb:Below B W W')(hB:hi<=B):RowOwn W' lo hi t sz v n xs:=
 ⟨Zan h.row (fun k hk=>hb.block k (by have:=h.top k hk;omega)),h.top⟩
theorem RowOwn.frame {W W':World}{lo hi l2 h2:Nat}{t:TypeId}{sz:Nat}{v:Value}{n:Nat}{xs:List Value}(h:RowOwn W lo hi t sz v n xs)(hb:Frame l2 h2 W W')(hB:hi<=l2\/h2<=lo):RowOwn W' lo hi t sz v n xs:=
 ⟨Zan h.row (fun k hk=>hb.block k (h.row.lt k hk).2 (by have h1:=h.top k hk;have h2:=(h.row.lt k hk).1;omega)),h.top⟩
theorem ZpX {n m:Nat}(h:¬szN 1048576 n m<0):n+m<=1048576:=by
 unfold szN at h
 split at h
 ·omega
 ·split at h
  ·omega
  ·omega
theorem Zow (n:Int)(v1 v2:Value)(lo hi:Nat)(ls:List Lk)(ts:List Th)(c:Int)(w:World)(h1:RowOwn w lo hi 174 4 v1 ls.length (flat lkE ls))(h2:RowOwn w lo hi 120 4 v2 ts.length (flat thE ts))(hn:ls.length+ts.length<=1048576)(hc:0<=c)(hc2:c<=100):
  Calls Tryz.prog 41 #[.agg #[.int .i64 n,v1,v2],.int .i64 c] w fun e w'=>(∃ q:Int,e=.returned (.int .i64 q)/\0<=q/\q<=10000000)/\Frame lo hi w w':=by
 refine (Zj0 n v1 v2 lo ls ts c w h1.row h2.row (by omega) (by omega) hc (by omega)).mono ?_
 rintro e w' ⟨rfl,_,_,f⟩;refine⟨⟨_,rfl,by omega,by omega⟩,f.os,f.tape,f.output,f.size,fun k hk hh=>f.block k hk ?_⟩
 rintro (h | h)
 ·have a1:=h1.top k h
  have a2:=(h1.row.lt k h).1;omega
 ·have a1:=h2.top k h
  have a2:=(h2.row.lt k h).1;omega
theorem ZkM (v:Value)(lo hi:Nat)(bs:List Bool)(c:Int)(w:World)(h1:RowOwn w lo hi 4 1 v bs.length (flat blE bs))(hn:bs.length<=1048576)(hc:0<=c)(hc2:c<=100000000):
  Calls Tryz.prog 46 #[v,.int .i64 c] w fun e w'=>(∃ q:Int,e=.returned (.int .i64 q)/\0<=q/\q<=c+1048576)/\Frame lo hi w w':=by
 refine (ZjZ v lo bs.length _ c w h1.row hn hc (by omega)).mono ?_
 rintro e w' ⟨rfl,g⟩;exact⟨⟨_,rfl,by omega,by omega⟩,Frame.grown g (fun k e=>⟨(h1.row.lt k e).1,h1.top k e⟩)⟩
theorem ZiD (v1 v2:Value)(bs:List Bool)(l1 h1 l2 h2:Nat)(w:World)(k1:RowOwn w l1 h1 4 1 v1 bs.length (flat blE bs))(k2:RowOwn w l2 h2 4 1 v2 bs.length (flat blE bs))(hn:bs.length<=1048576):
  Calls Tryz.prog 45 #[v1,v2] w fun e w'=>e=.returned (.bool true)/\Below w.heap.size w w':=Zmy v1 v2 bs w (Zap k1.row) (Zap k2.row) hn
theorem ZmA (u1 u2 v1 v2:Value)(x:NetD)(l1 h1 l2 h2 l3 h3 l4 h4:Nat)(w:World)(k1:RowOwn w l1 h1 174 4 u1 x.ls.length (flat lkE x.ls))(k2:RowOwn w l2 h2 120 4 u2 x.ts.length (flat thE x.ts))(k3:RowOwn w l3 h3 174 4 v1 x.ls.length (flat lkE x.ls))(k4:RowOwn w l4 h4 120 4 v2 x.ts.length (flat thE x.ts))(hn:x.ls.length+x.ts.length<=1048576):
  Calls Tryz.prog 40 #[.agg #[.int .i64 x.n,u1,u2],.agg #[.int .i64 x.n,v1,v2]] w fun e w'=>e=.returned (.bool true)/\Below w.heap.size w w':=by
 have h:=Zmz (.agg #[.int .i64 x.n,u1,u2]) (.agg #[.int .i64 x.n,v1,v2]) x x w ⟨_,_,rfl,Zap k1.row,Zap k2.row⟩ ⟨_,_,rfl,Zap k3.row,Zap k4.row⟩ (by omega) (by omega)
 rw [decide_eq_true rfl] at h;exact h
end Go.Proofs.YtadokhjefnkajaaGreat
