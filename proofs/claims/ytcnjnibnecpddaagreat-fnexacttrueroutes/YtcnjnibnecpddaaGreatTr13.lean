/-
  Parts.
-/
import Derived.Test.YtcnjnibnecpddaaGreatTr12
namespace Go.Proofs.YtcnjnibnecpddaaGreat
open Go.RowKit

theorem ZcQ {x y z:RecD}(h1:Zam x y=true)(h2:Zam y z=true):Zam x z=true:=by
 unfold Zam at *;simp only [YAx,YAM,YAT,beq_iff_eq] at *;omega

theorem Zfx {x y z:RecD}(h1:Zat x y=true)(h2:Zam x z=true):Zam y z=true:=by
 unfold Zam Zat at *;simp only [YAx,YAM,YAT,beq_iff_eq] at *;omega

theorem Zbv {x y:RecD}(h1:Zat x y=true):Zam x y=false/\Zam y x=false:=by
 unfold Zam Zat at *;simp only [Bool.or_eq_false_iff,Bool.and_eq_false_iff,decide_eq_false_iff_not,beq_eq_false_iff_ne,YAM,beq_iff_eq] at *;omega

theorem ZiQ (x y:RecD):Zam x y=true\/Zat x y=true\/Zam y x=true:=by
 unfold Zam Zat;simp only [YAx,YAM,YAT,beq_iff_eq];omega

theorem Zer (x y:RecD):ordR x y<0↔Zam x y=true:=by
 rw [<-ZgK];simp

theorem Zku (x y:RecD):ordR x y=0↔Zat x y=true:=by
 unfold ordR cmpK Zat;simp only [YAM,beq_iff_eq];by_cases h1:x.area=y.area
 ·rw [if_pos (Zbd.2 h1)];by_cases h2:x.kind=y.kind
  ·rw [if_pos (Zbd.2 h2)];by_cases h3:x.owner=y.owner
   ·rw [if_pos (Zbd.2 h3),Zbd];simp [h1,h2,h3]
   ·rw [if_neg (fun h=>h3 (Zbd.1 h)),Zbd];simp [h3]
  ·rw [if_neg (fun h=>h2 (Zbd.1 h)),Zbd];simp [h2]
 ·rw [if_neg (fun h=>h1 (Zbd.1 h)),Zbd];simp [h1]

def Asc (xs:List RecD):Prop:=xs.Pairwise (fun x y=>Zam x y=true)

theorem asc_of {xs:List RecD}(h:ascB ordR xs=true):Asc xs:=by
 unfold Asc;rw [YAb];have step:∀ i (h2:i+1<xs.length),Zam xs[i] xs[i+1]=true:=by
  intro i h2;have h3:=List.all_eq_true.1 h (i+1) (List.mem_range.2 h2);rw [Zb9 (YAA (by omega)) (YAA h2),ZgK] at h3;exact h3
 have main:∀ d i (h2:i+1+d<xs.length),Zam xs[i] (xs[i+1+d])=true:=by
  intro d
  induction d with
  | zero=>intro i h2;exact step i h2
  | succ d ih=>intro i h2;exact ZcQ (ih i (by omega)) (step (i+1+d) h2)
 intro i j hi hj hij;have h2:=main (j-i-1) i (by omega);have e:i+1+(j-i-1)=j:=by omega
 simp only [e] at h2;exact h2

theorem Zma {xs:List RecD}(h:Asc xs):ascB ordR xs=true:=by
 unfold Asc at h;rw [YAb] at h;refine Zbi fun j hj=>?_;cases j with
 | zero=>rfl
 | succ k=>
  rw [Zb9 (YAA (by omega)) (YAA hj),ZgK];exact h k (k+1) (by omega) hj (by omega)

theorem ZiO {xs:List RecD}(h:Asc xs)(r:RecD):∀ s t,s<=t->t<xs.length->ltAt xs r t->ltAt xs r s:=by
 intro s t hst ht hl;unfold Asc at h;rw [YAb] at h;have h1:=(Zdc (YAA ht)).1 hl;refine (Zdc (YAA (by omega))).2 ?_;by_cases e:s=t
 ·subst e;exact h1
 ·rw [Zer] at h1 |-
  exact ZcQ (h s t (by omega) ht (by omega)) h1

def putD (xs:List RecD)(r:RecD):List RecD:=xs.filter (fun x=>Zam x r)++[r]++xs.filter (fun x=>Zam r x)

theorem ZfV (ps:List RP)(r:RP):fsts (putL ps r)=putD (fsts ps) r.1:=by
 unfold putL putD fsts;simp [List.filter_map,Function.comp_def]

section
variable {xs:List RecD} {r:RecD} {i:Nat}

theorem Zlb (hi:i<=xs.length)(h1:∀ t,t<i->ltAt xs r t)(h2:∀ t,i<=t->t<xs.length->¬ltAt xs r t):xs.filter (fun x=>Zam x r)=xs.take i:=by
 conv=>lhs;rw [<-YAa i xs]
 rw [List.filter_append];have e1:(xs.take i).filter (fun x=>Zam x r)=xs.take i:=by
  rw [List.filter_eq_self];intro x hx;obtain⟨t,ht,e⟩:=List.getElem_of_mem hx;rw [YAS] at ht;rw [List.getElem_take] at e;have:=(Zdc (YAA (show t<xs.length by omega))).1 (h1 t (by omega));rw [e,Zer] at this;exact this
 have e2:(xs.drop i).filter (fun x=>Zam x r)=[]:=by
  rw [List.filter_eq_nil_iff];intro x hx hb;obtain⟨t,ht,e⟩:=List.getElem_of_mem hx;rw [YAj] at ht;rw [List.getElem_drop] at e;refine h2 (i+t) (by omega) (by omega) ((Zdc (YAA (by omega))).2 ?_);rw [e,Zer];exact hb
 rw [e1,e2,List.append_nil]

theorem Zgp (h1:∀ t,t<i->ltAt xs r t)(hi:i<=xs.length):(xs.take i).filter (fun x=>Zam r x)=[]:=by
 rw [List.filter_eq_nil_iff];intro x hx hb;obtain⟨t,ht,e⟩:=List.getElem_of_mem hx;rw [YAS] at ht;rw [List.getElem_take] at e;have:=(Zdc (YAA (show t<xs.length by omega))).1 (h1 t (by omega));rw [e,Zer] at this;rw [ZdV this] at hb;cases hb

theorem ZmM (hs:Asc xs)(hi:i<=xs.length)(h1:∀ t,t<i->ltAt xs r t)(h2:∀ t,i<=t->t<xs.length->¬ltAt xs r t)(h3:¬∃ x,xs[i]? = some x/\ordR x r=0):putD xs r=xs.take i++[r]++xs.drop i:=by
 unfold putD;rw [Zlb hi h1 h2];congr 1
 conv=>lhs;rw [<-YAa i xs]
 rw [List.filter_append,Zgp h1 hi,List.nil_append,List.filter_eq_self];unfold Asc at hs;rw [YAb] at hs;intro x hx;obtain⟨t,ht,e⟩:=List.getElem_of_mem hx;rw [YAj] at ht;rw [List.getElem_drop] at e;have hin:i<xs.length:=by omega
 have hfirst:Zam r xs[i]=true:=by
  rcases ZiQ xs[i] r with h | h | h
  ·exact absurd ((Zdc (YAA hin)).2 ((Zer _ _).2 h)) (h2 i (YA _) hin)
  ·exact absurd ⟨xs[i],YAA hin,(Zku _ _).2 h⟩ h3
  ·exact h
 by_cases e0:t=0
 ·subst e0;simp only [Nat.add_zero] at e;rw [<-e];exact hfirst
 ·rw [<-e];exact ZcQ hfirst (hs i (i+t) hin (by omega) (by omega))

theorem ZmN (hs:Asc xs)(hi:i<xs.length)(h1:∀ t,t<i->ltAt xs r t)(h2:∀ t,i<=t->t<xs.length->¬ltAt xs r t)(h3:ordR xs[i] r=0):putD xs r=xs.set i r:=by
 have hsame:=(Zku _ _).1 h3;have e0:xs.drop i=xs[i]::xs.drop (i+1):=YAk hi;unfold putD;rw [Zlb (Nat.le_of_lt hi) h1 h2];have e1:xs.filter (fun x=>Zam r x)=xs.drop (i+1):=by
  conv=>lhs;rw [<-YAa i xs]
  rw [List.filter_append,Zgp h1 (Nat.le_of_lt hi),List.nil_append,e0,List.filter_cons,if_neg (by rw [(Zbv hsame).2];simp),List.filter_eq_self];unfold Asc at hs;rw [YAb] at hs;intro x hx;obtain⟨t,ht,e⟩:=List.getElem_of_mem hx;rw [YAj] at ht;rw [List.getElem_drop] at e;rw [<-e];exact Zfx hsame (hs i (i+1+t) hi (by omega) (by omega))
 rw [e1];apply List.ext_getElem?;intro j;by_cases hj:j<i
 ·rw [List.getElem?_set_ne (by omega),YAW,List.getElem?_append_left (by simp;omega),YAo hj]
 ·by_cases hje:j=i
  ·subst hje;rw [List.getElem?_set_self hi,YAW,YAv (by simp;omega),YAS,YAR (by omega),Nat.sub_self];rfl
  ·rw [List.getElem?_set_ne (by omega),YAW,YAv (by simp;omega),YAS,YAR (by omega),YAv (by simp;omega),List.getElem?_drop];congr 1;simp;omega
end
end Go.Proofs.YtcnjnibnecpddaaGreat
namespace Go.Proofs.YtcnjnibnecpddaaGreat
open Go.RowKit
set_option linter.unusedSimpArgs false
set_option linter.unusedVariables false
set_option maxRecDepth 100000
set_option maxHeartbeats 8000000
variable {src u v:Nat}{F:Nat->Bool}{c:Nat->Int}{h:Nat->List Int}{L:Nat->Nat->Int}
def Zcn (F:Nat->Bool):Nat:=(F 1).toNat+(F 2).toNat+(F 3).toNat+(F 4).toNat+(F 5).toNat+(F 6).toNat
theorem Zgc (h:1<=u/\u<=6):u=1\/u=2\/u=3\/u=4\/u=5\/u=6:=by omega
theorem Zez (hu:1<=u/\u<=6)(hF:F u=false):Zcn (fun v=>F v||v==u)=Zcn F+1:=by
 unfold Zcn;rcases Zgc hu with rfl | rfl | rfl | rfl | rfl | rfl <;> simp [hF] <;> omega
theorem ZiX (F:Nat->Bool):Zcn F<=6:=by
 unfold Zcn;have h1:=Bool.toNat_le (F 1);have h2:=Bool.toNat_le (F 2);have h3:=Bool.toNat_le (F 3);have h4:=Bool.toNat_le (F 4);have h5:=Bool.toNat_le (F 5);have h6:=Bool.toNat_le (F 6);omega
theorem Zoo (h:Zcn F=6)(hu:1<=u/\u<=6):F u=true:=by
 cases e:F u with
 | true=>rfl
 | false=>
  have:=Zez hu e;have:=ZiX (fun v=>F v||v==u);omega
theorem ZgT :Zcn (fun _=>false)=0:=rfl
def Zdb (c:Nat->Int)(h:Nat->List Int):Nat->List WayD
 | 0=>[]
 | k+1=>Zdb c h k++(if 0<=c (k+1) then [⟨((k+1:Nat):Int),c (k+1),h (k+1)⟩] else [])
theorem Zie {d:Nat->Int}{g:Nat->List Int}(e:∀ v,(0<=c v->d v=c v/\g v=h v)/\(0<=d v->0<=c v)):∀ k,Zdb c h k=Zdb d g k
 | 0=>rfl
 | k+1=>by
  unfold Zdb;rw [Zie e k];congr 1;by_cases h0:0<=c (k+1)
  ·have:=(e (k+1)).1 h0;rw [if_pos h0,if_pos (by omega),this.1,this.2]
  ·rw [if_neg h0,if_neg (fun hc=>h0 ((e (k+1)).2 hc))]
theorem Fix.coll {d:Nat->Int}{g:Nat->List Int}(A:Fix L src c h)(B:Fix L src d g):Zdb c h 6=Zdb d g 6:=by
 refine Zie (fun v=>⟨fun h0=>⟨A.cost B v h0,A.hops B v h0⟩,fun h0=>?_⟩) 6;have:=B.cost A v h0;omega
def Zbn (xs:List RecD)(area src:Int)(ds:List WayD):Prop:=
 if (ZaA xs&&inB src 1 6&&Zhj xs area src)=true then ∃ c h,Fix (Zei xs area) src.toNat c h/\ds=Zdb c h 6 else ds=[]
theorem Zbn.unique {xs:List RecD}{area src:Int}{ds es:List WayD}(h1:Zbn xs area src ds)(h2:Zbn xs area src es):ds=es:=by
 unfold Zbn at h1 h2
 split at h1
 ·rename_i e
  rw [if_pos e] at h2;obtain⟨c,h,A,rfl⟩:=h1;obtain⟨d,g,B,rfl⟩:=h2;exact A.coll B
 ·rename_i e
  rw [if_neg e] at h2;rw [h1,h2]
theorem ZfA (c:Nat->Int)(h:Nat->List Int)(hv:1<=v):Zdb c h v=Zdb c h (v-1)++(if 0<=c v then [⟨(v:Int),c v,h v⟩] else []):=by
 obtain⟨k,rfl⟩:∃ k,v=k+1:=⟨v-1,by omega⟩;rfl
theorem Zme (c:Nat->Int)(h:Nat->List Int):∀ k,(Zdb c h k).length<=k
 | 0=>by simp [Zdb]
 | k+1=>by
  unfold Zdb;have:=Zme c h k;rw [YAO]
  split <;> simp <;> omega
theorem Zo7 {j:Nat}(hu:0<=c u):mixC L c u j u=c u:=by
 unfold mixC
 split
 ·exact Zd2 hu (Int.le_refl _)
 ·rfl
theorem Zfl (h0:0<=c v)(hv:c v<=c u):ZbK L src c h u v=h v/\ZaC L c u v=c v:=by
 by_cases hl:0<L u v
 ·exact Zd3 h0 (by omega)
 ·exact Zfn hl
theorem ZlF {j:Nat}(hu:0<=c u):mixH L src c h u j u=h u:=by
 unfold mixH
 split
 ·exact (Zfl hu (Int.le_refl _)).1
 ·rfl
theorem Zgw {B:Int}(h:∀ v,c v<=B)(hL:∀ u v,L u v<=1000):ZaC L c u v<=B+1000:=by
 unfold ZaC;have:=h v;have:=h u;have:=hL u v
 split <;> omega
def ZkV (F:Nat->Bool)(c:Nat->Int)(v a:Nat):Prop:=
 (a=0/\∀ x,1<=x->x<v->F x=false->c x<0)\/(1<=a/\a<v/\F a=false/\0<=c a/\∀ x,1<=x->x<v->F x=false->0<=c x->c a<=c x)
theorem Zgb {a:Nat}(h:ZkV F c v a)(hs:F v=true\/c v<0\/(1<=a/\c a<=c v)):ZkV F c (v+1) a:=by
 rcases h with ⟨h1,h2⟩ | ⟨h1,h2,h3,h4,h5⟩
 ·refine .inl ⟨h1,fun x hx1 hx2 hF=>?_⟩;by_cases e:x=v
  ·subst e;rcases hs with h | h | h
   ·rw [hF] at h;cases h
   ·exact h
   ·omega
  ·exact h2 x hx1 (by omega) hF
 ·refine .inr ⟨h1,by omega,h3,h4,fun x hx1 hx2 hF hc=>?_⟩;by_cases e:x=v
  ·subst e;rcases hs with h | h | h
   ·rw [hF] at h;cases h
   ·omega
   ·exact h.2
  ·exact h5 x hx1 (by omega) hF hc
theorem Zip {a:Nat}(h:ZkV F c v a)(h1v:1<=v)(hF:F v=false)(hc:0<=c v)(hs:a=0\/c v<c a):ZkV F c (v+1) v:=by
 refine .inr ⟨h1v,by omega,hF,hc,fun x hx1 hx2 hFx hcx=>?_⟩;by_cases e:x=v
 ·subst e;omega
 ·rcases h with ⟨h1,h2⟩ | ⟨h1,h2,h3,h4,h5⟩
  ·have:=h2 x hx1 (by omega) hFx;omega
  ·have:=h5 x hx1 (by omega) hFx hcx;omega
structure AtRound (L:Nat->Nat->Int) (src:Nat) (F:Nat->Bool) (c:Nat->Int) (h:Nat->List Int) (r:Nat):Prop where
 inv:Inv L src F c h
 bnd:∀ v,c v<=1000*(Zcn F:Int)
 at':Zcn F+1=r\/(r=7/\∀ v,0<=c v->F v=true)
theorem AtRound.init (hs:Zc8 src):AtRound L src (fun _=>false) (fun v=>if v=src then 0 else -1) (fun _=>[]) 1:=by
 refine⟨Inv.init hs,fun v=>?_,.inl rfl⟩;rw [ZgT];show (if v=src then (0:Int) else -1)<=_
 split <;> omega
theorem AtRound.fin (a:AtRound L src F c h 7):Fix L src c h/\∀ v,F v=true↔0<=c v:=by
 have hf:∀ v,0<=c v->F v=true:=by
  rcases a.at' with h1 | ⟨_,h1⟩
  ·intro v hv;exact Zoo (by omega) (a.inv.cnode v hv)
  ·exact h1
 exact⟨⟨F,a.inv,hf⟩,fun v=>⟨fun hv=>(a.inv.fnode v hv).2,hf v⟩⟩
theorem AtRound.none {r:Nat}(a:AtRound L src F c h r)(hm:ZkV F c 7 0):AtRound L src F c h 7:=by
 refine⟨a.inv,a.bnd,.inr ⟨rfl,fun v hv=>?_⟩⟩;have hn:=a.inv.cnode v hv;unfold Zc8 at hn;cases e:F v with
 | true=>rfl
 | false=>
  rcases hm with ⟨_,h2⟩ | ⟨h1,_⟩
  ·have:=h2 v hn.1 (by omega) e;omega
  ·omega
theorem AtRound.next {r:Nat}(a:AtRound L src F c h r)(hL:Links L 1000)(hr:r<7)(hm:ZkV F c 7 u)(hu:1<=u):AtRound L src (fun v=>F v||v==u) (fun v=>ZaC L c u v) (fun v=>ZbK L src c h u v) (r+1):=by
 rcases hm with ⟨h1,_⟩ | ⟨h1,h2,h3,h4,h5⟩
 ·omega
 ·have hcard:Zcn (fun v=>F v||v==u)=Zcn F+1:=Zez ⟨h1,by omega⟩ h3;refine⟨a.inv.step hL h3 h4 (fun v hv hc=>?_) (fun v=>Zfo a.inv hL h4 v),fun v=>?_,.inl ?_⟩
  ·have hn:=a.inv.cnode v hc;unfold Zc8 at hn;exact h5 v hn.1 (by omega) hv hc
  ·rw [hcard];have:=Zgw (L:=L) (u:=u) (v:=v) a.bnd hL.le;omega
  ·rw [hcard];rcases a.at' with h6 | ⟨h6,_⟩
   ·omega
   ·omega
theorem Zf0 (W:World)(lo:Nat)(hb:lo<=W.heap.size):WaysOwn (W.alloc (.cells #[] 193)) lo (W.alloc (.cells #[] 193)).heap.size (.slice (some (U W.heap.size 0)) 0 0) [] where
 row:=YAe W #[] 0 hb (by unfold maxLen;omega) (by simp)
 top:=by intro k hk;simp [Value.ownBlock] at hk;subst hk;simp
 nears:=by simp
 apart:=by simp
def nodR (x:SelfD)(a:Int):RecD:=⟨a,1,x.id,0,0,hinD x.net.ls x.id a (ZaK x.heard),0,false⟩
def nodD (x:SelfD)(al:List Int):List RecD:=al.map (nodR x)
theorem ZqO {x:SelfD}{al:List Int}{k:Nat}{a:Int}(h:al[k]? = some a):nodD x (al.take (k+1))=nodD x (al.take k)++[nodR x a]:=by
 obtain⟨hk,e⟩:=YAD.1 h;unfold nodD;rw [YAI hk,e,YAh];rfl
theorem Zpd (x:SelfD)(al:List Int):(nodD x al).length=al.length:=by simp [nodD]
theorem ZdE (ls:List Lk)(f:Int):(ZbW ls f).length<=3:=by
 unfold ZbW;exact YAG (List.length_filter_le _ _) (by simp)
theorem Zpe (v1 v2 v3 v4:Value)(x:SelfD)(w:World)(hl:x.net.ls.length<=1048576)(hh:x.heard.length<=1048576)(h1:ZaV w v1 x.net.ls w.heap.size)(h3:ZaI w v3 x.heard w.heap.size):
  Calls Tryz.prog 73 #[ZlR x v1 v2 v3 v4] w fun e w'=>∃ u qs,e=.returned u/\fsts qs=nodD x (ZbW x.net.ls x.id)/\RecsOwn w' w.heap.size w'.heap.size u qs/\T_ w w':=by
 obtain⟨a1,c1,rfl⟩:=ZaV.shape h1;obtain⟨a3,c3,rfl⟩:=h3.shape;have HA:=hide (fun W (hb:T_ w W)=>ZeD (M x.net.n) (.slice a1 x.net.ls.length c1) v2 x.net.ls x.id W hl (Zaw.then h1 hb));have HE:=hide (fun W (hb:T_ w W) (a:Int)=>Zlj (.slice a1 x.net.ls.length c1) v2 (.slice a3 x.heard.length c3) v4 x a W hl hh (Zaw.then h1 hb) (h3.then hb));have hle3:=ZdE x.net.ls x.id;clear h1 h3;have G0:=hide (YAE w (.cells #[M x.id,M x.boot,M x.net.n,.slice a1 x.net.ls.length c1,v2,.slice a3 x.heard.length c3,v4] 31));have B0:T_ w (w.alloc (.cells #[M x.id,M x.boot,M x.net.n,.slice a1 x.net.ls.length c1,v2,.slice a3 x.heard.length c3,v4] 31)):=(YAC _ _).alloc (YA _) _;obtain⟨al,hasE⟩:∃ al,al=ZbW x.net.ls x.id:=⟨_,rfl⟩;rw [<-hasE] at HA hle3 |-;clear hasE;unfold ZlR at HE
 go_enter Tryz.func73,Tryz.ntmps73
 go_wp2_with fail
 refine (HA _ B0).mono ?_;rintro e w1 ⟨u,rfl,hu,b1⟩;obtain⟨ea,ec,rfl⟩:=Zac hu;have B1:T_ w w1:=B0.trans (b1.mono B0.size);have hg1:=(b1.block _ (Zab G0)).trans G0;have hs1:=b1.size;have hz1:w.heap.size<w1.heap.size:=Zab hg1;have EA:=hide (show ZaI w1 (.slice ea al.length ec) al w1.heap.size from Zan (by rw [<-ZbL] at hu;exact hu));have z0:=Zaa hg1 0;have z1:=Zaa hg1 1;have z2:=Zaa hg1 2;have z3:=Zaa hg1 3;have z4:=Zaa hg1 4;have z5:=Zaa hg1 5;have z6:=Zaa hg1 6;simp at z0 z1 z2 z3 z4 z5 z6;clear hg1 hu b1 G0 B0 HA;go_wp2
 go_loopw [12,3] (fun i o wr=>∃ (k:Nat) (qs:List RP) (u:Value),k<=al.length/\i=M k/\o=u/\Hid (fsts qs=nodD x (al.take k))/\Hid (RecsOwn wr w1.heap.size wr.heap.size u qs)/\T_ w1 wr) (fun i _ _=>al.length-(intOf i).toNat)
 case atStart=>exact ⟨0,[],_,by omega,rfl,rfl,hide (by simp [fsts,nodD]),hide ⟨YAX _ _ _ _,by intro k hk;simp [Value.ownBlock] at hk,by simp,List.Pairwise.nil⟩,YAC _ _⟩
 case round=>
  obtain⟨k,qs,u,hk,rfl,rfl,HM,OW,hnx⟩:=hrel;obtain⟨ua,uc,rfl⟩:=Zac OW.out.row;have hsz:=hnx.size;by_cases hlt:k<al.length
  ·obtain ⟨a,ha⟩:∃ a,al[k]? = some a:=⟨al[k],YAA hlt⟩;obtain⟨b,off,cap',hve,hbb,d0⟩:=EA.out.cell k a ha;cases hve;replace d0:=(hnx.cell hbb).trans d0;have HST:=hide (ZqO (x:=x) ha);have hki:(0:Int)<=(k:Int):=by omega
   have hkj:(k:Int)<(al.length:Int):=by omega
   have HQL:=hide (show qs.length<=3 by
    have h1:=congrArg List.length HM;rw [Zpd] at h1;simp [fsts] at h1;omega)
   clear ha;replace z0:=(hnx.cell hz1).trans z0;replace z1:=(hnx.cell hz1).trans z1;replace z2:=(hnx.cell hz1).trans z2;replace z3:=(hnx.cell hz1).trans z3;replace z4:=(hnx.cell hz1).trans z4;replace z5:=(hnx.cell hz1).trans z5;replace z6:=(hnx.cell hz1).trans z6;have HCX:=hide (HE wr.drew (B1.trans (hnx.mono B1.size)).drew a);have NE0:some w.heap.size≠(Value.slice ua qs.length uc).ownBlock:=fun e=>by have:=(OW.out.row.lt _ e.symm).1;omega
   have hz2:w.heap.size<wr.heap.size:=by omega
   have hz3:w.heap.size<wr.drew.heap.size:=hz2;go_wp2
   -- REGION
   refine Zah (S:=(fun (W:World)=>W.cell? (U w.heap.size 0)=some (M x.id)/\W.cell? (U w.heap.size 1)=some (M x.boot)/\W.cell? (U w.heap.size 2)=some (M x.net.n)/\W.cell? (U w.heap.size 3)=some (.slice a1 x.net.ls.length c1)/\W.cell? (U w.heap.size 4)=some (v2)/\W.cell? (U w.heap.size 5)=some (.slice a3 x.heard.length c3)/\W.cell? (U w.heap.size 6)=some (v4))) (by kernel_rfl) 11 rfl ⟨z0,z1,z2,z3,z4,z5,z6⟩ (fun ops hops hHeld=>?_)
   iterate 6 (refine TK 11 ?_;try simp only [putS])
   refine TC 6 ?_;intro K hK;go_simp;refine HCX.out.mono ?_;rintro e w2 ⟨hu,rfl,hou,bc⟩;obtain⟨ha,hc,rfl⟩:=Zac hou;have hbs:wr.heap.size<=w2.heap.size:=bc.size;have HOU:=hide hou;clear hou;refine hK _ _ ?_ (fun hHeld=>?_)
   ·obtain ⟨m0,m1,m2,m3,m4,m5,m6⟩:=hHeld;exact⟨(bc.cell hz2).trans m0,(bc.cell hz2).trans m1,(bc.cell hz2).trans m2,(bc.cell hz2).trans m3,(bc.cell hz2).trans m4,(bc.cell hz2).trans m5,(bc.cell hz2).trans m6⟩
   clear hK K
   try simp only [putS]
   refine TK 11 ?_
   try simp only [putS]
   refine TC 8 ?_;intro K hK;go_simp;refine hK _ _ ?_ (fun hHeld=>?_)
   ·obtain ⟨m0,m1,m2,m3,m4,m5,m6⟩:=hHeld;exact⟨(((YAC w2.heap.size w2).alloc (YA _) _).cell (YAB hz2 bc.size)).trans m0,(((YAC w2.heap.size w2).alloc (YA _) _).cell (YAB hz2 bc.size)).trans m1,(((YAC w2.heap.size w2).alloc (YA _) _).cell (YAB hz2 bc.size)).trans m2,(((YAC w2.heap.size w2).alloc (YA _) _).cell (YAB hz2 bc.size)).trans m3,(((YAC w2.heap.size w2).alloc (YA _) _).cell (YAB hz2 bc.size)).trans m4,(((YAC w2.heap.size w2).alloc (YA _) _).cell (YAB hz2 bc.size)).trans m5,(((YAC w2.heap.size w2).alloc (YA _) _).cell (YAB hz2 bc.size)).trans m6⟩
   clear hK K
   try simp only [putS]
   refine TC 9 ?_;intro K hK;refine Ze5 Zax (by omega) (by omega) _ _ _ 29 rfl w1.heap.size 39 Tryz.underlying29 (.agg (recC Zbf (.slice none 0 0))) rfl Tryz.infoRec (.slice ua qs.length uc) qs (nodR x a,.slice ha (hinD x.net.ls x.id a (ZaK x.heard)).length hc) (Zb2 _ _ _ _) rfl ((Zad OW.out.row.drew bc (YA _)).alloc _) (U w2.heap.size 0) 1 rfl (Zar (cs:=encP (nodR x a,.slice ha (hinD x.net.ls x.id a (ZaK x.heard)).length hc))) (by have:=HQL.out;omega) (by simp;omega) ?_;intro v' w' hown' hgrow;refine hK _ _ ?_ (fun hHeld=>?_)
   ·obtain ⟨m0,m1,m2,m3,m4,m5,m6⟩:=hHeld;exact⟨hgrow.cell m0 NE0,hgrow.cell m1 NE0,hgrow.cell m2 NE0,hgrow.cell m3 NE0,hgrow.cell m4 NE0,hgrow.cell m5 NE0,hgrow.cell m6 NE0⟩
   clear hK K
   try simp only [putS]
   refine TK 11 ?_
   try simp only [putS]
   refine wpAnyH_done (by rw [hops.out];kernel_rfl) ?_ _;clear hops ops
   -- END
   have hgs:=hgrow.size;have hds:wr.drew.heap.size=wr.heap.size:=rfl;have BF:T_ w1 w':=((hnx.drew.trans (bc.mono (by omega))).alloc (by omega) _).grown hgrow (by simp;omega) (fun k hk=>(OW.out.row.lt k hk).1);have bb:T_ wr (w2.alloc (.cells (encP (nodR x a,.slice ha (hinD x.net.ls x.id a (ZaK x.heard)).length hc)).toArray 39)):=((YAC _ _).drew.trans (bc.mono (by omega))).alloc (by omega) _;have ow4:=OW.out.push (p:=(nodR x a,.slice ha (hinD x.net.ls x.id a (ZaK x.heard)).length hc)) bb (by omega) ⟨Zaf (HOU.out.alloc _) (by omega),fun k hk=>by have:=(HOU.out.lt k hk).2;simp;omega⟩ (by simpa using hown') hgrow;obtain⟨va,vc,rfl⟩:=Zac hown';have OW4:=hide ow4;clear hown' hgrow ow4 bb;go_wp2;go_roundw
   case rel=>exact ⟨k+1,qs++[(nodR x a,.slice ha (hinD x.net.ls x.id a (ZaK x.heard)).length hc)],_,by omega,by go_num,rfl,hide (by rw [HST.out, <-HM.out];simp [fsts]),OW4,BF⟩
   case measure=>exact MS_
  ·have KN:=hide (show al.take k=al from YAP (by omega));go_wp2;go_ret;exact⟨_,qs,rfl,by rw [HM.out,KN.out],OW.out.wide (by omega) (YA _),B1.trans (hnx.mono B1.size)⟩
end Go.Proofs.YtcnjnibnecpddaaGreat
namespace Go.Proofs.YtcnjnibnecpddaaGreat

def cOf (bp:Nat->Option Nat)(wd:Nat->WayD)(v:Nat):Int:=match bp v with
 | some k=>(wd k).cost
 | none => -1

def hOf (bp:Nat->Option Nat)(wd:Nat->WayD)(v:Nat):List Int:=match bp v with
 | some k=>(wd k).hops
 | none=>[]

theorem ZcK {bp:Nat->Option Nat}{wd:Nat->WayD}{v k:Nat}(h:bp v=some k):cOf bp wd v=(wd k).cost:=by unfold cOf;rw [h]

theorem ZeC {bp:Nat->Option Nat}{wd:Nat->WayD}{v k:Nat}(h:bp v=some k):hOf bp wd v=(wd k).hops:=by unfold hOf;rw [h]

theorem ZgH {bp:Nat->Option Nat}{wd:Nat->WayD}{v:Nat}(h:bp v=none):cOf bp wd v = -1:=by unfold cOf;rw [h]

structure GI (F:Nat->Bool) (c:Nat->Int) (h:Nat->List Int) (n:Nat) (q:Nat->Nat) (bp:Nat->Option Nat) (wd:Nat->WayD):Prop where
 cc:∀ v,cOf bp wd v=c v
 hh:∀ v,hOf bp wd v=h v
 to:∀ v k,bp v=some k->(wd k).to=(v:Int)
 ent:∀ i,i<n->∃ v kb:Nat,(wd (q i)).to=(v:Int)/\bp v=some kb/\((q i=kb/\F v=false)\/(wd kb).cost<(wd (q i)).cost)
 live:∀ v k,bp v=some k->F v=false->∃ i,i<n/\q i=k
 inj:∀ i j,i<n->j<n->q i=q j->i=j
 nn:∀ v k,bp v=some k->0<=(wd k).cost

theorem GI.push {F:Nat->Bool}{c:Nat->Int}{h:Nat->List Int}{n:Nat}{q q':Nat->Nat}{bp:Nat->Option Nat}{wd:Nat->WayD}(g:GI F c h n q bp wd){t k:Nat}{x:WayD}(hF:F t=false)(hx:x.to=(t:Int))(hc:c t<0\/x.cost<c t)
  (hk1:∀ i,i<n->q i≠k) (hk2:∀ v,bp v≠some k) (hs:Shuf (fun y=>if y=n then k else q y) q' (n+1)) (hx0:0<=x.cost):GI F (upd c t x.cost) (upd h t x.hops) (n+1) q' (upd bp t (some k)) (upd wd k x):=by
 have wk:∀ i,i<n->upd wd k x (q i)=wd (q i):=fun i hi=>Zao _ _ (hk1 i hi);have wb:∀ v k',bp v=some k'->upd wd k x k'=wd k':=fun v k' e=>Zao _ _ (fun e2=>hk2 v (by rw [e,e2]));have hin:∀ i,i<n+1->q' i=k\/∃ j,j<n/\q' i=q j:=by
  intro i hi;obtain⟨j,hj,e⟩:=hs.into i hi;by_cases e2:j=n
  ·left;rw [e];exact if_pos e2
  ·right;refine⟨j,by omega,?_⟩;rw [e];exact if_neg e2
 refine⟨fun v=>?_,fun v=>?_,fun v k' e=>?_,fun i hi=>?_,fun v k' e hFv=>?_,?_,fun v k' e=>?_⟩
 ·by_cases e:v=t
  ·subst e;rw [ZcK (k:=k) (Zau _ _ _),Zau,Zau]
  ·rw [Zao _ _ e, <-g.cc v];unfold cOf;rw [Zao _ _ e];cases e2:bp v with
   | none=>rfl
   | some k'=>show (upd wd k x k').cost=(wd k').cost;rw [wb v k' e2]
 ·by_cases e:v=t
  ·subst e;rw [ZeC (k:=k) (Zau _ _ _),Zau,Zau]
  ·rw [Zao _ _ e, <-g.hh v];unfold hOf;rw [Zao _ _ e];cases e2:bp v with
   | none=>rfl
   | some k'=>show (upd wd k x k').hops=(wd k').hops;rw [wb v k' e2]
 ·by_cases e2:v=t
  ·subst e2;rw [Zau] at e;cases e;rw [Zau];exact hx
  ·rw [Zao _ _ e2] at e;rw [wb v k' e];exact g.to v k' e
 ·rcases hin i hi with e | ⟨j,hj,e⟩
  ·refine ⟨t,k,?_,Zau _ _ _,.inl ⟨e,hF⟩⟩;rw [e,Zau];exact hx
  ·obtain ⟨v,kb,h1,h2,h3⟩:=g.ent j hj;rw [e,wk j hj];by_cases ev:v=t
   ·subst ev;refine⟨v,k,h1,Zau _ _ _,.inr ?_⟩;rw [Zau];have hcv:=g.cc v;rw [ZcK h2] at hcv;have h0:=g.nn v kb h2;rcases h3 with ⟨h4,_⟩ | h4
    ·rw [h4];omega
    ·omega
   ·refine ⟨v,kb,h1,by rw [Zao _ _ ev];exact h2,?_⟩;rw [wb v kb h2];exact h3
 ·by_cases e2:v=t
  ·subst e2;rw [Zau] at e;cases e;obtain⟨i,hi,e3⟩:=hs.onto n (by omega);exact⟨i,hi,by rw [e3];exact if_pos rfl⟩
  ·rw [Zao _ _ e2] at e;obtain⟨j,hj,e3⟩:=g.live v k' e hFv;obtain⟨i,hi,e4⟩:=hs.onto j (by omega);refine⟨i,hi,?_⟩;rw [e4, <-e3];exact if_neg (by omega)
 ·refine hs.inj (fun i j hi hj e=>?_);by_cases ei:i=n <;> by_cases ej:j=n
  ·omega
  ·have e2:k=q j:=by simpa [ei,ej] using e
   exact absurd e2.symm (hk1 j (by omega))
  ·have e2:q i=k:=by simpa [ei,ej] using e
   exact absurd e2 (hk1 i (by omega))
  ·have e2:q i=q j:=by simpa [ei,ej] using e
   exact g.inj i j (by omega) (by omega) e2
 ·by_cases e2:v=t
  ·subst e2;rw [Zau] at e;cases e;rw [Zau];exact hx0
  ·rw [Zao _ _ e2] at e;rw [wb v k' e];exact g.nn v k' e

theorem GI.join {F:Nat->Bool}{c:Nat->Int}{h:Nat->List Int}{n:Nat}{q:Nat->Nat}{bp:Nat->Option Nat}{wd:Nat->WayD}(g:GI F c h n q bp wd){t k:Nat}{y:WayD}(hb:bp t=some k)(hc:y.cost=(wd k).cost)(ht:y.to=(wd k).to):GI F c (upd h t y.hops) n q bp (upd wd k y):=by
 have hcost:∀ k',(upd wd k y k').cost=(wd k').cost:=by
  intro k';by_cases e:k'=k
  ·rw [e,Zau];exact hc
  ·rw [Zao _ _ e]
 have hto:∀ k',(upd wd k y k').to=(wd k').to:=by
  intro k';by_cases e:k'=k
  ·rw [e,Zau];exact ht
  ·rw [Zao _ _ e]
 refine⟨fun v=>?_,fun v=>?_,fun v k' e=>?_,fun i hi=>?_,g.live,g.inj,fun v k' e=>by rw [hcost];exact g.nn v k' e⟩
 ·rw [<-g.cc v];unfold cOf;cases bp v with
  | none=>rfl
  | some k'=>exact hcost k'
 ·by_cases e:v=t
  ·subst e;rw [ZeC hb,Zau,Zau]
  ·rw [Zao _ _ e, <-g.hh v];unfold hOf;cases e2:bp v with
   | none=>rfl
   | some k'=>
    show (upd wd k y k').hops=(wd k').hops;rw [Zao];intro e3;subst e3;have h1:=g.to v k' e2;have h2:=g.to t k' hb;omega
 ·rw [hto];exact g.to v k' e
 ·obtain ⟨v,kb,h1,h2,h3⟩:=g.ent i hi;refine⟨v,kb,by rw [hto];exact h1,h2,?_⟩;rw [hcost,hcost];exact h3

theorem pop_in {q q':Nat->Nat}{n:Nat}(hs:Shuf (Zcu q 0 n) q' n){i:Nat}(hi:i<n):∃ j,0<j/\j<n+1/\q' i=q j:=by
 obtain⟨j,hj,e⟩:=hs.into i hi;rcases Zcf q 0 n j with ⟨a,b⟩ | ⟨a,b⟩ | ⟨a,_,b⟩
 ·exact ⟨n,by omega,by omega,e.trans b⟩
 ·omega
 ·exact ⟨j,by omega,by omega,e.trans b⟩

theorem pop_on {q q':Nat->Nat}{n:Nat}(hs:Shuf (Zcu q 0 n) q' n){j:Nat}(h0:0<j)(hj:j<n+1):∃ i,i<n/\q' i=q j:=by
 by_cases e:j=n
 ·obtain ⟨i,hi,e2⟩:=hs.onto 0 (by omega);refine⟨i,hi,?_⟩;rw [e2];unfold Zcu;rw [if_pos rfl,e]
 ·obtain ⟨i,hi,e2⟩:=hs.onto j (by omega);refine⟨i,hi,?_⟩;rw [e2];unfold Zcu;rw [if_neg (by omega),if_neg e]

theorem Zsc {q q':Nat->Nat}{n:Nat}(hs:Shuf (Zcu q 0 n) q' n)(hi:∀ i j,i<n+1->j<n+1->q i=q j->i=j):∀ i j,i<n->j<n->q' i=q' j->i=j:=
 hs.inj (fun i j h1 h2 e=>(Shuf.swap q (n:=n+1) (i:=0) (j:=n) (by omega) (by omega)).inj hi i j (by omega) (by omega) e)

theorem GI.pop {F F':Nat->Bool}{c:Nat->Int}{h:Nat->List Int}{n:Nat}{q q':Nat->Nat}{bp:Nat->Option Nat}{wd:Nat->WayD}(g:GI F c h (n+1) q bp wd)(hs:Shuf (Zcu q 0 n) q' n)
  (hF1:∀ v,F' v=false->F v=false) (hF2:∀ v k,bp v=some k->F' v=false->k≠q 0) (hF3:∀ v,F v=false->F' v=true->bp v=some (q 0)):GI F' c h n q' bp wd:=by
 refine⟨g.cc,g.hh,g.to,fun i hi=>?_,fun v k e hFv=>?_,Zsc hs g.inj,g.nn⟩
 ·obtain ⟨j,h0,hj,e⟩:=pop_in hs hi;obtain⟨v,kb,h1,h2,h3⟩:=g.ent j hj;rw [e];refine⟨v,kb,h1,h2,?_⟩;rcases h3 with ⟨h4,h5⟩ | h4
  ·left;refine⟨h4,?_⟩;cases e2:F' v with
   | false=>rfl
   | true=>
    have h6:=hF3 v h5 e2;rw [h2] at h6;cases h6;have:=g.inj j 0 hj (by omega) h4;omega
  ·exact .inr h4
 ·obtain ⟨j,hj,e2⟩:=g.live v k e (hF1 v hFv);have h0:0<j:=by
   by_cases e3:j=0
   ·subst e3;exact absurd e2.symm (hF2 v k e hFv)
   ·omega
  obtain⟨i,hi,e4⟩:=pop_on hs h0 hj;exact⟨i,hi,e4.trans e2⟩
theorem Inv.hops_ne {L:Nat->Nat->Int}{src:Nat}{F:Nat->Bool}{c:Nat->Int}{h:Nat->List Int}(I:Inv L src F c h):∀ (m v:Nat),v≠src->0<=c v->(c v).toNat<=m->h v≠[]
 | m,v,hv,h0,hm=>by
  obtain⟨u,hu,hl,hc⟩:=I.pred v hv h0;have hu0:=(I.fnode u hu).2;by_cases e:u=src
  ·have:(v:Int)∈h v:=(I.hop v hv v).2 ⟨h0,u,hu,hl,hc,.inl ⟨e,rfl⟩⟩;intro e2;rw [e2] at this;cases this
  ·match m,hm with
   | 0,hm=>omega
   | m+1,hm=>
    have ih:=I.hops_ne m u e hu0 (by omega);obtain⟨x,hx⟩:=List.exists_mem_of_ne_nil _ ih;have:x∈h v:=(I.hop v hv x).2 ⟨h0,u,hu,hl,hc,.inr ⟨e,hx⟩⟩;intro e2;rw [e2] at this;cases this

theorem Zfw {l a b:List Int}(hl:l.Pairwise (· < ·))(hm:∀ x,x∈l↔(x∈a\/x∈b))(hr:∀ x,x∈l->1<=x/\x<=6):l=addL a b:=by
 refine ZiN hl (ZgD a b) (fun x=>?_);rw [ZgF];constructor
 ·intro hx;have:=hr x hx;exact⟨this.1,this.2,(hm x).1 hx⟩
 ·rintro ⟨_,_,h3⟩;exact (hm x).2 h3

theorem Zeh {P:Nat->Prop}(h:∃ m,P m):∃ m,P m/\∀ k,P k->m<=k:=by
 obtain⟨m,hm⟩:=h
 induction m using Nat.strongRecOn with
 | ind m ih=>
  by_cases e:∃ k,k<m/\P k
  ·obtain ⟨k,hk,hP⟩:=e;exact ih k hk hP
  ·exact ⟨m,hm,fun k hk=>by
    by_cases e2:k<m
    ·exact absurd ⟨k,e2,hk⟩ e
    ·omega⟩

open Classical in
noncomputable def Zin (P:Nat->Prop):Nat:=if h:∃ m,P m then Classical.choose (Zeh h) else 0

theorem Zly {P:Nat->Prop}(h:∃ m,P m):P (Zin P):=by
 unfold Zin;rw [dif_pos h];exact (Classical.choose_spec (Zeh h)).1

theorem Zhc {P:Nat->Prop}{m:Nat}(h:P m):Zin P<=m:=by
 unfold Zin;rw [dif_pos ⟨m,h⟩];exact (Classical.choose_spec (Zeh ⟨m,h⟩)).2 m h
end Go.Proofs.YtcnjnibnecpddaaGreat
namespace Go.Proofs.YtcnjnibnecpddaaGreat
open Go.RowKit
set_option linter.unusedSimpArgs false
set_option linter.unusedVariables false
set_option maxRecDepth 100000
set_option maxHeartbeats 8000000
variable {area owner:Int}{xs:List RecD}{k:Nat}
def Zhk (area owner:Int)(x:RecD):Bool:=x.area==area&&x.kind==1&&x.owner==owner
def plN (xs:List RecD)(area owner:Int):Option Nat:=xs.findIdx? (Zhk area owner)
def plV2:Option Nat->Value
 | some k=>.tuple #[M (k:Int),.bool true]
 | none=>.tuple #[M 0,.bool false]
theorem Zpr {x:RecD}(hk:xs[k]? = some x)(hs:Zhk area owner x=true)(hall:∀ j,j<k->∀ y,xs[j]? = some y->Zhk area owner y=false):plN xs area owner=some k:=by
 obtain⟨h1,e1⟩:=YAD.1 hk;unfold plN;rw [List.findIdx?_eq_some_iff_getElem];refine⟨h1,by rw [e1];exact hs,fun j hj=>?_⟩;have:=hall j hj xs[j] (YAA (by omega));rw [this];simp
theorem Zq8 (hall:∀ j,j<xs.length->∀ y,xs[j]? = some y->Zhk area owner y=false):plN xs area owner=none:=by
 unfold plN;rw [List.findIdx?_eq_none_iff];intro x hx;obtain⟨j,hj,e⟩:=List.mem_iff_getElem.1 hx;exact hall j hj x (by rw [YAA hj,e])
theorem Zp8 {x:RecD}{f:RecD->Bool}(h:∀ j,j<k->∀ y,xs[j]? = some y->f y=false)(hk:xs[k]? = some x)(hx:f x=false):∀ j,j<k+1->∀ y,xs[j]? = some y->f y=false:=by
 intro j hj y hy;by_cases e:j=k
 ·subst e;rw [hk] at hy;cases hy;exact hx
 ·exact h j (by omega) y hy
theorem Ziu (v:Value)(ps:List RP)(hi:Nat)(area owner:Int)(w:World)(hv:RecsIn w hi v ps)(hhi:hi<=w.heap.size)(hn:tot ps<=1048576):
  Calls Tryz.prog 237 #[v,M area,M owner] w fun e w'=>e=.returned (plV2 (plN (fsts ps) area owner))/\T_ w w':=by
 have hnl:=Zby ps;obtain⟨R,hR⟩:∃ R,R=plN (fsts ps) area owner:=⟨_,rfl⟩;rw [<-hR];have HR:=hide hR;clear hR;obtain⟨a1,c1,rfl⟩:=Zac hv.row;have HV:=hide hv;clear hv
 go_enter Tryz.func237,Tryz.ntmps237
 go_wp2
 go_loopw [11] (fun i wr=>∃ (k:Nat),k<=ps.length/\i=M (k:Int)/\Hid (∀ j,j<k->∀ y,(fsts ps)[j]? = some y->Zhk area owner y=false)/\T_ w wr) (fun i _=>ps.length-(intOf i).toNat)
 case atStart=>exact ⟨0,by omega,rfl,hide (by omega),YAC _ _⟩
 case round=>
  obtain⟨k,hk,rfl,HALL,hnx⟩:=hrel;by_cases hlt:k<ps.length
  ·obtain ⟨p,hp⟩:∃ p,ps[k]? = some p:=⟨ps[k],YAA hlt⟩;have hat:=HV.out.at;obtain⟨b,off,cap',hve,hbb,c0,c1,c2,_⟩:=hat.cells k p hp;cases hve;replace c0:=(hnx.cell (YAB hbb hhi)).trans c0;replace c1:=(hnx.cell (YAB hbb hhi)).trans c1;replace c2:=(hnx.cell (YAB hbb hhi)).trans c2;have hki:(0:Int)<=(k:Int):=by omega
   have hkj:(k:Int)<(ps.length:Int):=by omega
   have HPP:=hide (Zbq hp);obtain⟨x0,hx0⟩:∃ x,x=p.1.area:=⟨_,rfl⟩;obtain⟨x1,hx1⟩:∃ x,x=p.1.kind:=⟨_,rfl⟩;obtain⟨x2,hx2⟩:∃ x,x=p.1.owner:=⟨_,rfl⟩;have HM:=hide (show Zhk area owner p.1=(x0==area&&x1==1&&x2==owner) by rw [hx0,hx1,hx2];rfl);rw [<-hx0] at c0;rw [<-hx1] at c1;rw [<-hx2] at c2;clear hp hat hx0 hx1 hx2;have NXT:=hide (fun (e:(x0==area&&x1==1&&x2==owner)=false)=>Zp8 HALL HPP (HM.out.trans e));by_cases h0:x0=area
   ·by_cases h1:x1=1
    ·by_cases h2:x2=owner
     ·have HF:=hide (show R=some k by rw [HR.out];exact Zpr HPP (by rw [HM.out];simp [h0,h1,h2]) HALL);have hRR:=HF.out;subst hRR;subst h0 h1 h2;clear NXT HM;go_wp2
      go_returns
      exact⟨rfl,hnx⟩
     ·have HN:=hide (NXT (by simp [h2]));have hb2:(x2==owner)=false:=by simpa using h2
      subst h0 h1;clear NXT HM;go_wp2;go_roundw
      case rel=>exact ⟨k+1,by omega,by go_num,HN,hnx⟩
      case measure=>exact MS_
    ·have HN:=hide (NXT (by simp [h1]));have hb1:(x1==1)=false:=by simpa using h1
     subst h0;clear NXT HM;go_wp2;go_roundw
     case rel=>exact ⟨k+1,by omega,by go_num,HN,hnx⟩
     case measure=>exact MS_
   ·have HN:=hide (NXT (by simp [h0]));have hb0:(x0==area)=false:=by simpa using h0
    clear NXT HM;go_wp2;go_roundw
    case rel=>exact ⟨k+1,by omega,by go_num,HN,hnx⟩
    case measure=>exact MS_
  ·have HF:=hide (show R=none by rw [HR.out];exact Zq8 (fun j hj=>HALL j (by simp [fsts] at hj;omega)));have hRR:=HF.out;subst hRR;go_wp2
   go_returns
   exact⟨rfl,hnx⟩
def Zjy (xs:List RecD)(area owner to:Int):Option Int:=match plN xs area owner with
 | some k=>match xs[k]? with
  | some x=>(x.near.find? (fun n=>n.to==to)).map (·.c)
  | none=>none
 | none=>none
def ZpX:Option Int->Value
 | some c=>.tuple #[M c,.bool true]
 | none=>.tuple #[M 0,.bool false]
theorem ZrH (h:plN xs area owner=some k):∃ x,xs[k]? = some x/\Zhk area owner x=true/\∀ j,j<k->∀ y,xs[j]? = some y->Zhk area owner y=false:=by
 unfold plN at h;obtain⟨h1,h2,h3⟩:=List.findIdx?_eq_some_iff_getElem.1 h;refine⟨xs[k],YAA h1,h2,fun j hj y hy=>?_⟩;have h4:=h3 j hj;rw [YAA (by omega)] at hy;cases hy;simpa using h4
theorem Zqp {ns:List Nr}{n:Nr}{b:Int}(h:ns[k]? = some n)(hno:∀ q∈ns.take k,q.to≠b)(hb:n.to=b):ns.find? (fun x=>x.to==b)=some n:=by
 obtain⟨hk,e1⟩:=YAD.1 h;rw [List.find?_eq_some_iff_append];refine⟨by simpa using hb,ns.take k,ns.drop (k+1),?_,?_⟩
 ·rw [<-e1, <-YAk hk,YAa]
 ·intro x hx;simpa using hno x hx
theorem ZmW (v:Value)(ps:List RP)(hi:Nat)(area owner to:Int)(w:World)(hv:RecsIn w hi v ps)(hhi:hi<=w.heap.size)(hn:tot ps<=1048576):
  Calls Tryz.prog 279 #[v,M area,M owner,M to] w fun e w'=>e=.returned (ZpX (Zjy (fsts ps) area owner to))/\T_ w w':=by
 have hnl:=Zby ps;obtain⟨R,hR⟩:∃ R,R=Zjy (fsts ps) area owner to:=⟨_,rfl⟩;rw [<-hR];have HP:=hide (Ziu v ps hi area owner w hv hhi hn);obtain⟨a1,c1,rfl⟩:=Zac hv.row;unfold Zjy at hR;cases hpl:plN (fsts ps) area owner with
 | none=>
  rw [hpl] at HP hR;have hRR:R=none:=hR;subst hRR;unfold plV2 at HP;unfold ZpX;clear hR hv
  go_enter Tryz.func279,Tryz.ntmps279
  go_wp2_with fail
  refine HP.out.mono ?_;rintro e w1 ⟨rfl,b1⟩;go_wp2
  go_returns
  exact⟨rfl,b1⟩
 | some k=>
  rw [hpl] at HP hR;obtain⟨x,hx,_,_⟩:=ZrH hpl;simp only [hx] at hR;obtain⟨p,hp,rfl⟩:=Zii hx;have hR2:R=(p.1.near.find? (fun n=>n.to==to)).map (·.c):=hR;have HR:=hide hR2;clear hR hR2;unfold plV2 at HP;have hlt:k<ps.length:=(YAD.1 hp).1;obtain⟨b,off,cap',hve,hbb,_,_,_,_,_,c5,_,_,hnr⟩:=hv.at.cells k p hp;cases hve;obtain⟨pa,pc,hpn⟩:=ZaG.shape hnr;rw [hpn] at c5 hnr;have hnl2:p.1.near.length<=1048576:=by have:=ZhQ (YAH hp);omega
  have HNR:=hide hnr;have hki:(0:Int)<=(k:Int):=by omega
  have hkj:(k:Int)<(ps.length:Int):=by omega
  obtain⟨ns,hns⟩:∃ ns,ns=p.1.near:=⟨_,rfl⟩;rw [<-hns] at HR c5 HNR hnl2;clear hx hp hv hnr hpn hns hpl
  go_enter Tryz.func279,Tryz.ntmps279
  go_wp2_with fail
  refine HP.out.mono ?_;rintro e w1 ⟨rfl,b1⟩;replace c5:=(b1.cell (YAB hbb hhi)).trans c5;have N1:=hide (Zaw.later HNR b1 hhi);go_wp2
  go_loopw [29] (fun i wr=>∃ (j:Nat),j<=ns.length/\i=M (j:Int)/\Hid (∀ q∈ns.take j,q.to≠to)/\T_ w1 wr) (fun i _=>ns.length-(intOf i).toNat)
  case atStart=>exact ⟨0,by omega,rfl,hide (by simp),YAC _ _⟩
  case round=>
   obtain⟨j,hj,rfl,HNO,hnx⟩:=hrel;have hs1:=b1.size;have B:T_ w wr:=b1.trans (hnx.mono hs1);have hsB:=B.size;have hsx:=hnx.size;by_cases hjl:j<ns.length
   ·obtain ⟨n,hnj⟩:∃ n,ns[j]? = some n:=⟨ns[j],YAA hjl⟩;obtain⟨b2,off2,cp,hve,hbb2,d0,d1⟩:=ZaG.cells (Zaw.later N1.out hnx (by omega)) j n hnj;cases hve;have hji:(0:Int)<=(j:Int):=by omega
    have hjj:(j:Int)<(ns.length:Int):=by omega
    by_cases hto:n.to=to
    ·have HF:=hide (show R=some n.c by rw [HR.out,Zqp hnj HNO.out hto];rfl);have hRR:=HF.out;subst hRR;subst hto;clear hnj;go_wp2
     go_returns
     exact⟨rfl,B.alloc (by omega) _⟩
    ·have HN:=hide (ZkG hnj HNO hto);have hb0:(n.to==to)=false:=by simpa using hto
     clear hnj;go_wp2;go_roundw
     case rel=>exact ⟨j+1,by omega,by go_num,HN,hnx.alloc (by omega) _⟩
     case measure=>exact MS_
   ·have HF:=hide (show R=none by
     rw [HR.out];have h:=HNO.out;rw [YAP (by omega)] at h;rw [List.find?_eq_none.2 (fun x hx=>by simpa using h x hx)];rfl)
    have hRR:=HF.out;subst hRR;go_wp2
    go_returns
    exact⟨rfl,B⟩
def Zhe (xs:List RecD)(area a b:Int):Int:=match Zjy xs area b a with
 | some _=>match Zjy xs area a b with
  | some c=>c
  | none=>0
 | none=>0
theorem Zlq (v:Value)(ps:List RP)(hi:Nat)(area a b:Int)(w:World)(hv:RecsIn w hi v ps)(hhi:hi<=w.heap.size)(hn:tot ps<=1048576):
  Calls Tryz.prog 264 #[v,M area,M a,M b] w fun e w'=>e=.returned (M (Zhe (fsts ps) area a b))/\T_ w w':=by
 have H1:=hide (ZmW v ps hi area b a w hv hhi hn);have H2:=hide (fun W (hb:T_ w W)=>ZmW v ps hi area a b W (hv.below hb hhi) (YAG hhi hb.size) hn);clear hv;unfold Zhe;cases e1:Zjy (fsts ps) area b a with
 | none=>
  rw [e1] at H1;unfold ZpX at H1
  go_enter Tryz.func264,Tryz.ntmps264
  go_wp2_with fail
  refine H1.out.mono ?_;rintro e w1 ⟨rfl,b1⟩;go_wp2;go_ret;exact⟨rfl,b1⟩
 | some c=>
  rw [e1] at H1;cases e2:Zjy (fsts ps) area a b with
  | none=>
   rw [e2] at H2;unfold ZpX at H1 H2
   go_enter Tryz.func264,Tryz.ntmps264
   go_wp2_with fail
   refine H1.out.mono ?_;rintro e w1 ⟨rfl,b1⟩
   go_wp2_with fail
   refine (H2 _ b1).mono ?_;rintro e w2 ⟨rfl,b2⟩;have B2:T_ w w2:=b1.trans (b2.mono b1.size);go_wp2;go_ret;exact⟨rfl,B2⟩
  | some c2=>
   rw [e2] at H2;unfold ZpX at H1 H2
   go_enter Tryz.func264,Tryz.ntmps264
   go_wp2_with fail
   refine H1.out.mono ?_;rintro e w1 ⟨rfl,b1⟩
   go_wp2_with fail
   refine (H2 _ b1).mono ?_;rintro e w2 ⟨rfl,b2⟩;have B2:T_ w w2:=b1.trans (b2.mono b1.size);go_wp2;go_ret;exact⟨rfl,B2⟩
def seq1 (r:RecD):RecD:=if r.seq=0 then { r with seq:=1 } else r
def Zd7 (xs ts:List RecD):List RecD:=ts.foldl (fun a r=>putD a (seq1 r)) xs
theorem ZiH {ts:List RecD}{r:RecD}(h:ts[k]? = some r):Zd7 xs (ts.take (k+1))=putD (Zd7 xs (ts.take k)) (seq1 r):=by
 obtain⟨hk,e⟩:=YAD.1 h;unfold Zd7;rw [YAI hk,e,List.foldl_append];rfl
theorem Zp1 {ts:List RP}{p:RP}(h:ts[k]? = some p):tot (ts.take (k+1))=tot (ts.take k)+(1+p.1.near.length):=by
 obtain⟨hk,e⟩:=YAD.1 h;rw [YAI hk,ZdR,e];simp [tot]
theorem ZkQ (ts:List RP)(k:Nat):tot (ts.take k)<=tot ts:=by
 have h:=ZdR (ts.take k) (ts.drop k);rw [YAa] at h;omega
theorem ZrA (v v2:Value)(ps ts:List RP)(hi:Nat)(w:World)(hv:RecsIn w hi v ps)(ht:RecsIn w hi v2 ts)(hhi:hi<=w.heap.size)(hn:tot ps+tot ts<=1048576):
  Calls Tryz.prog 68 #[v,v2] w fun e w'=>∃ x qs,e=.returned x/\fsts qs=Zd7 (fsts ps) (fsts ts)/\RecsIn w' w'.heap.size x qs/\tot qs<=tot ps+tot ts/\T_ w w':=by
 have htl:=Zby ts;obtain⟨a1,c1,rfl⟩:=Zac hv.row;obtain⟨a2,c2,rfl⟩:=Zac ht.row;have HT:=hide ht;have HV0:=hide (hv.wide hhi);clear hv ht
 go_enter Tryz.func68,Tryz.ntmps68
 go_wp2
 go_loopw [6,5] (fun i o wr=>∃ (k:Nat) (x:Value) (qs:List RP),k<=ts.length/\i=M (k:Int)/\o=x/\RecsIn wr wr.heap.size x qs/\Hid (fsts qs=Zd7 (fsts ps) ((fsts ts).take k))/\tot qs<=tot ps+tot (ts.take k)/\T_ w wr) (fun i _ _=>ts.length-(intOf i).toNat)
 case atStart=>exact ⟨0,_,ps,by omega,rfl,rfl,HV0,hide (by simp [Zd7]),by omega,YAC _ _⟩
 case round=>
  obtain⟨k,x,qs,hk,rfl,rfl,hin,HF,htq,hnx⟩:=hrel;clear HV0;obtain⟨xa,xc,rfl⟩:=Zac hin.row;have hsz:=hnx.size;by_cases hlt:k<ts.length
  ·obtain ⟨p,hp⟩:∃ p,ts[k]? = some p:=⟨ts[k],YAA hlt⟩;obtain⟨bb,off,cap',hve,hbb,c0,c1,c2,c3,c4,c5,c6,c7,hnr⟩:=HT.out.at.cells k p hp;cases hve;obtain⟨pa,pc,hpn⟩:=ZaG.shape hnr;rw [hpn] at c5;replace c0:=(hnx.cell (YAB hbb hhi)).trans c0;replace c1:=(hnx.cell (YAB hbb hhi)).trans c1;replace c2:=(hnx.cell (YAB hbb hhi)).trans c2;replace c3:=(hnx.cell (YAB hbb hhi)).trans c3;replace c4:=(hnx.cell (YAB hbb hhi)).trans c4;replace c5:=(hnx.cell (YAB hbb hhi)).trans c5;replace c6:=(hnx.cell (YAB hbb hhi)).trans c6;replace c7:=(hnx.cell (YAB hbb hhi)).trans c7;have htk:=Zp1 hp;have htl2:=ZkQ ts (k+1);have hno0:=HT.out.nears p (YAH hp);have hno1:ZaH wr 0 wr.heap.size p:=(hno0.keep (W':=wr) (fun j _ h2 _=>hnx.block j (by omega))).wide (YA _) (by omega);have hpe:p=(p.1,.slice pa p.1.near.length pc):=by rw [<-hpn]
   have hki:(0:Int)<=(k:Int):=by omega
   have hkj:(k:Int)<(ts.length:Int):=by omega
   by_cases hs0:p.1.seq=0
   ·have hd:(p.1.seq==0)=true:=by simpa using hs0
    have hse:seq1 p.1 = { p.1 with seq:=1 }:=by unfold seq1;rw [if_pos hs0]
    have hno:ZaH wr 0 wr.heap.size ({ p.1 with seq:=1 },.slice pa p.1.near.length pc):=by rw [hpe] at hno1;exact hno1
    clear hs0 hpe hno0 hno1 hnr hpn;have BA:T_ wr (wr.alloc (.cells #[M p.1.area,M p.1.kind,M p.1.owner,M p.1.key,M 1,.slice pa p.1.near.length pc,M p.1.cost,.bool p.1.far] 39)):=(YAC _ _).alloc (YA _) _;have hno2:ZaH (wr.alloc (.cells #[M p.1.area,M p.1.kind,M p.1.owner,M p.1.key,M 1,.slice pa p.1.near.length pc,M p.1.cost,.bool p.1.far] 39)) 0 (wr.alloc (.cells #[M p.1.area,M p.1.kind,M p.1.owner,M p.1.key,M 1,.slice pa p.1.near.length pc,M p.1.cost,.bool p.1.far] 39)).heap.size ({ p.1 with seq:=1 },.slice pa p.1.near.length pc):=(hno.keep (W':=(wr.alloc (.cells #[M p.1.area,M p.1.kind,M p.1.owner,M p.1.key,M 1,.slice pa p.1.near.length pc,M p.1.cost,.bool p.1.far] 39))) (fun j _ _ h3=>BA.block j h3)).wide (YA _) BA.size;have HP:=hide (Zjt (.slice xa qs.length xc) qs (wr.alloc (.cells #[M p.1.area,M p.1.kind,M p.1.owner,M p.1.key,M 1,.slice pa p.1.near.length pc,M p.1.cost,.bool p.1.far] 39)).heap.size ({ p.1 with seq:=1 },.slice pa p.1.near.length pc) (wr.alloc (.cells #[M p.1.area,M p.1.kind,M p.1.owner,M p.1.key,M 1,.slice pa p.1.near.length pc,M p.1.cost,.bool p.1.far] 39)) ((hin.below BA (YA _)).wide BA.size) (YA _) (by omega) hno2);have HF2:=hide (show fsts (putL qs ({ p.1 with seq:=1 },.slice pa p.1.near.length pc))=Zd7 (fsts ps) ((fsts ts).take (k+1)) by
     rw [ZfV,ZiH (Zbq hp), <-HF.out,hse])
    have htp:=ZjD qs ({ p.1 with seq:=1 },.slice pa p.1.near.length pc);have HB:=hide (hnx.trans (BA.mono hnx.size));have HTK:=hide htk;have htp2:tot (putL qs ({ p.1 with seq:=1 },.slice pa p.1.near.length pc))<=tot qs+(1+p.1.near.length):=htp;obtain⟨Q,hQ⟩:∃ Q,Q=putL qs ({ p.1 with seq:=1 },.slice pa p.1.near.length pc):=⟨_,rfl⟩;rw [<-hQ] at HP HF2 htp2;unfold recC at HP;simp only [] at HP;clear hno hno2 hin hse htp hp HF htk hQ
    go_wp2_with fail
    refine HP.out.mono ?_;rintro e w2 ⟨y,rfl,hy,b2⟩;obtain⟨ya,yc,rfl⟩:=Zac hy.row;have HY:=hide hy;have HB2:=hide (HB.out.trans (b2.mono HB.out.size));clear hy b2 HP HB BA;go_wp2;go_roundw
    case rel=>exact ⟨k+1,_,Q,by omega,by go_num,rfl,HY,HF2,by have:=HTK.out;omega,HB2⟩
    case measure=>exact MS_
   ·have hd:(p.1.seq==0)=false:=by simpa using hs0
    have hse:seq1 p.1=p.1:=by unfold seq1;rw [if_neg hs0]
    have hno:ZaH wr 0 wr.heap.size (p.1,.slice pa p.1.near.length pc):=by rw [hpe] at hno1;exact hno1
    clear hs0 hpe hno0 hno1 hnr hpn;have BA:T_ wr (wr.alloc (.cells #[M p.1.area,M p.1.kind,M p.1.owner,M p.1.key,M p.1.seq,.slice pa p.1.near.length pc,M p.1.cost,.bool p.1.far] 39)):=(YAC _ _).alloc (YA _) _;have hno2:ZaH (wr.alloc (.cells #[M p.1.area,M p.1.kind,M p.1.owner,M p.1.key,M p.1.seq,.slice pa p.1.near.length pc,M p.1.cost,.bool p.1.far] 39)) 0 (wr.alloc (.cells #[M p.1.area,M p.1.kind,M p.1.owner,M p.1.key,M p.1.seq,.slice pa p.1.near.length pc,M p.1.cost,.bool p.1.far] 39)).heap.size (p.1,.slice pa p.1.near.length pc):=(hno.keep (W':=(wr.alloc (.cells #[M p.1.area,M p.1.kind,M p.1.owner,M p.1.key,M p.1.seq,.slice pa p.1.near.length pc,M p.1.cost,.bool p.1.far] 39))) (fun j _ _ h3=>BA.block j h3)).wide (YA _) BA.size;have HP:=hide (Zjt (.slice xa qs.length xc) qs (wr.alloc (.cells #[M p.1.area,M p.1.kind,M p.1.owner,M p.1.key,M p.1.seq,.slice pa p.1.near.length pc,M p.1.cost,.bool p.1.far] 39)).heap.size (p.1,.slice pa p.1.near.length pc) (wr.alloc (.cells #[M p.1.area,M p.1.kind,M p.1.owner,M p.1.key,M p.1.seq,.slice pa p.1.near.length pc,M p.1.cost,.bool p.1.far] 39)) ((hin.below BA (YA _)).wide BA.size) (YA _) (by omega) hno2);have HF2:=hide (show fsts (putL qs (p.1,.slice pa p.1.near.length pc))=Zd7 (fsts ps) ((fsts ts).take (k+1)) by
     rw [ZfV,ZiH (Zbq hp), <-HF.out,hse])
    have htp:=ZjD qs (p.1,.slice pa p.1.near.length pc);have HB:=hide (hnx.trans (BA.mono hnx.size));have HTK:=hide htk;have htp2:tot (putL qs (p.1,.slice pa p.1.near.length pc))<=tot qs+(1+p.1.near.length):=htp;obtain⟨Q,hQ⟩:∃ Q,Q=putL qs (p.1,.slice pa p.1.near.length pc):=⟨_,rfl⟩;rw [<-hQ] at HP HF2 htp2;unfold recC at HP;simp only [] at HP;clear hno hno2 hin hse htp hp HF htk hQ
    go_wp2_with fail
    refine HP.out.mono ?_;rintro e w2 ⟨y,rfl,hy,b2⟩;obtain⟨ya,yc,rfl⟩:=Zac hy.row;have HY:=hide hy;have HB2:=hide (HB.out.trans (b2.mono HB.out.size));clear hy b2 HP HB BA;go_wp2;go_roundw
    case rel=>exact ⟨k+1,_,Q,by omega,by go_num,rfl,HY,HF2,by have:=HTK.out;omega,HB2⟩
    case measure=>exact MS_
  ·have hkn:¬(k:Int)<(ts.length:Int):=by omega
   have HE:=hide (show fsts qs=Zd7 (fsts ps) (fsts ts) by have h:=HF.out;rw [YAP (by simp [fsts];omega)] at h;exact h);have HI:=hide hin;have hq:tot qs<=tot ps+tot ts:=by have:=ZkQ ts k;omega
   clear hin HF;go_wp2;go_ret
   first
    | exact ⟨_,qs,rfl,HE,HI,hq,hnx⟩
    | exact ⟨_,rfl,qs,HE,HI,hq,hnx⟩
end Go.Proofs.YtcnjnibnecpddaaGreat
namespace Go.Proofs.YtcnjnibnecpddaaGreat
open Go.RowKit

open Classical in
noncomputable def ZbO (xs:List RecD) (area src:Int):List WayD:=if h:∃ ds,Zbn xs area src ds then Classical.choose h else []

theorem Zbn.eq {xs:List RecD}{area src:Int}{ds:List WayD}(h:Zbn xs area src ds):ds=ZbO xs area src:=by
 unfold ZbO;rw [dif_pos ⟨ds,h⟩];exact h.unique (Classical.choose_spec (⟨ds,h⟩:∃ ds,Zbn xs area src ds))

def ZeX (tog:WayD->WayD->WayD)(best:Option WayD)(w:Option WayD):Option WayD:=match w with
 | none=>best
 | some w=>match best with
  | none=>some w
  | some b=>some (tog b w)

def ZaZ (ds:List WayD)(to:Int):Option WayD:=ds.find? (fun x=>x.to==to)

end Go.Proofs.YtcnjnibnecpddaaGreat
namespace Go.Proofs.YtcnjnibnecpddaaGreat
open Go.RowKit
set_option linter.unusedSimpArgs false
set_option linter.unusedVariables false
set_option maxRecDepth 100000
set_option maxHeartbeats 8000000
variable {a:Act}{K:Act->World->Prop}{Q:Exit->Act->World->Prop}{xs:List RecD}{k lo n t z:Nat}{q:Nat->Nat}{bp:Nat->Option Nat}{wv:Nat->Value}{wd:Nat->WayD}{o:Oper}{P:Program}{x:RecD}{u:Value}{W W2:World}
theorem ZdU (W:World)(o:Obj)(k:Nat)(hk:k<W.heap.size):(W.alloc o).heap[k]? = W.heap[k]? := YAL _ _ _ hk
theorem Zf1 {w:World}(s x:Operand)(t:TypeId)
  (ho:o.op=.call { callee:=.builtin .append,args:=#[s,x],argTypes:=#[t,t] })
  (base:Nat) (e:TypeId) (i:TypeInfo) (size:Nat) (ht:P.underlying t=some (.slice e)) (hi:P.info? e=some i)
  (v:Value) (n:Nat) (xs:List Value) (hs:a.eval s=v) (hown:w.ownsRow base e size v n xs) (hx:a.eval x=.slice none 0 0)
  (h:K (a.put o.dst v) w):o.wp P a w K Q:=by
 have hrun:=run_append_owned_none (P:=P) (w:=w) base t o.type e i size ht hi v n xs hown;unfold Oper.wp;simp [execOp,ho,resolve,invoke,builtin,hs,hx,hrun,Result.andThen];exact h
theorem Zh7 {α:Type}{enc:α->List Value}{sz bytes:Nat}(hlen:∀ l:List α,(flat enc l).length=l.length*sz)(hpos:0<sz)(hone:∀ a,∀ u∈enc a,u.oneCell'=true)(hbb:bytes<=100)(w:World)(s x:Operand)(t:TypeId)
  (ho:o.op=.call { callee:=.builtin .append,args:=#[s,x],argTypes:=#[t,t] }) (base:Nat) (e:TypeId) (ht:P.underlying t=some (.slice e)) (zv:Value) (hzv:zv.cells.size=sz)
  (hinfo:(P.info? e).map (fun i=>(i.zero,i.size,i.bytes))=some (some zv,sz,bytes))
  (v:Value) (l:List α) (hs:a.eval s=v) (hown:w.ownsRow base e sz v l.length (flat enc l))
  (base2:Nat) (v2:Value) (l2:List α) (hx:a.eval x=v2) (hown2:w.ownsRow base2 e sz v2 l2.length (flat enc l2))
  (hl:l.length+l2.length<=1000000000) (hbase:base<=w.heap.size)
  (h:∀ v' w',w'.ownsRow base e sz v' (l++l2).length (flat enc (l++l2))->w.grownBy w' v.ownBlock->K (a.put o.dst v') w'):o.wp P a w K Q:=by
 obtain⟨i0,hi,hz0,hz1,hz2⟩:=info_parts hinfo;rcases hown2.2 with ⟨e1,e2⟩ | ⟨g,cap,cur,e1,_⟩
 ·have e3:l2=[]:=YAt e2;subst e3;refine Zf1 s x t ho base e i0 sz ht hi v l.length (flat enc l) hs hown (hx.trans e1) ?_;exact h v w (by simpa using hown) (Zbz w _)
 ·refine wp_append_own w s x t ho base e i0 zv sz bytes ht hi hz0 hz1 hz2 hzv hpos v l.length (flat enc l) hs hown (U g 0) l2.length cap (flat enc l2) (hx.trans e1) (hlen l2) (hown2.cells (by rw [e1];rfl)) ?_ (by unfold maxLen;omega) ?_ hbase ?_
  ·intro u hu;simp only [flat,YAs] at hu;obtain⟨b,_,hb⟩:=hu;exact hone b u hb
  ·have:(l.length+l2.length)*bytes<=1000000000*100:=Nat.mul_le_mul hl hbb;omega
  ·intro v' w' h1 h2 _;have e1:flat enc l++flat enc l2=flat enc (l++l2):=by rw [ZaF]
   rw [e1] at h1;exact h v' w' (by simpa using h1) h2
theorem Zgl {α:Type}{enc:α->List Value}{sz bytes:Nat}(hlen:∀ a,(enc a).length=sz)(hpos:0<sz)(y0:α)(hone:∀ u∈enc y0,u.oneCell'=true)(hbb:bytes<=100)(w:World)(s x:Operand)(t:TypeId)
  (ho:o.op=.call { callee:=.builtin .append,args:=#[s,x],argTypes:=#[t,t] }) (base:Nat) (e:TypeId) (ht:P.underlying t=some (.slice e)) (zv:Value) (hzv:zv.cells.size=sz)
  (hinfo:(P.info? e).map (fun i=>(i.zero,i.size,i.bytes))=some (some zv,sz,bytes))
  (v:Value) (l:List α) (hs:a.eval s=v) (hown:w.ownsRow base e sz v l.length (flat enc l))
  (ad:Addr) (c:Nat) (hx:a.eval x=.slice (some ad) 1 c) (hnews:∀ j u,(enc y0)[j]? = some u->w.cell? (ad.add j)=some u)
  (hl:l.length+1<=1000000000) (hbase:base<=w.heap.size)
  (h:∀ v' w' l',Hid (l'=l++[y0])->w'.ownsRow base e sz v' l'.length (flat enc l')->w.grownBy w' v.ownBlock->K (a.put o.dst v') w'):Oper.wp P o a w K Q:=by
 obtain⟨i0,hi,hz0,hz1,hz2⟩:=info_parts hinfo;refine wp_append_own w s x t ho base e i0 zv sz bytes ht hi hz0 hz1 hz2 hzv hpos v l.length (flat enc l) hs hown ad 1 c (enc y0) hx (by rw [hlen];omega) hnews (hone) (by unfold maxLen;omega) ?_ hbase ?_
 ·have:(l.length+1)*bytes<=1000000000*100:=Nat.mul_le_mul hl hbb;omega
 ·intro v' w' h1 h2 _;have e1:flat enc l++enc y0=flat enc (l++[y0]):=by rw [ZaF];simp [flat]
  rw [e1] at h1;exact h v' w' (l++[y0]) rfl (by simpa using h1) h2
def wOps:Array Oper:=#[{ dst:=some 181,op:=Go.Op.move (Go.Operand.tmp 7),type:=187,pos := "l06_way.go:102",after:=#[],guard:=none }, { dst:=some 182,op:=Go.Op.move (Go.Operand.tmp 22),type:=3,pos := "l06_way.go:102",after:=#[],guard:=none }, { dst:=some 183,op:=Go.Op.move (Go.Operand.tmp 11),type:=28,pos := "l06_way.go:102",after:=#[],guard:=none }, { dst:=some 184,op:=Go.Op.move (Go.Operand.tmp 22),type:=3,pos := "l06_way.go:102",after:=#[],guard:=none }, { dst:=some 185,op:=Go.Op.indexAddr 28 (Go.Operand.tmp 183) (Go.Operand.tmp 184),type:=0,pos := "l06_way.go:102",after:=#[{ on:=2,ground:=Go.Ground.data }, { on:=3,ground:=Go.Ground.data }],guard:=none }, { dst:=some 186,op:=Go.Op.load 3 (Go.Operand.tmp 185),type:=3,pos := "l06_way.go:102",after:=#[{ on:=4,ground:=Go.Ground.data }],guard:=none }, { dst:=some 187,op:=Go.Op.buildSlice 28 0 #[],type:=28,pos := "l06_way.go:102",after:=#[],guard:=none }, { dst:=some 188,op:=Go.Op.move (Go.Operand.tmp 12),type:=269,pos := "l06_way.go:102",after:=#[],guard:=none }, { dst:=some 189,op:=Go.Op.move (Go.Operand.tmp 22),type:=3,pos := "l06_way.go:102",after:=#[],guard:=none }, { dst:=some 190,op:=Go.Op.indexAddr 269 (Go.Operand.tmp 188) (Go.Operand.tmp 189),type:=0,pos := "l06_way.go:102",after:=#[{ on:=7,ground:=Go.Ground.data }, { on:=8,ground:=Go.Ground.data }],guard:=none }, { dst:=some 191,op:=Go.Op.load 28 (Go.Operand.tmp 190),type:=28,pos := "l06_way.go:102",after:=#[{ on:=9,ground:=Go.Ground.data }],guard:=none }, { dst:=some 192,op:=Go.Op.call { callee:=Go.Callee.builtin Go.Builtin.append,args:=#[Go.Operand.tmp 187,Go.Operand.tmp 191],argTypes:=#[28,28] },type:=28,pos := "l06_way.go:102",after:=#[{ on:=6,ground:=Go.Ground.data }, { on:=10,ground:=Go.Ground.data }],guard:=none }, { dst:=some 193,op:=Go.Op.build 193 #[(0,Go.Operand.tmp 182),(1,Go.Operand.tmp 186),(2,Go.Operand.tmp 192)],type:=193,pos := "l06_way.go:102",after:=#[{ on:=1,ground:=Go.Ground.data }, { on:=5,ground:=Go.Ground.data }, { on:=11,ground:=Go.Ground.data }],guard:=none }, { dst:=some 194,op:=Go.Op.buildSlice 187 1 #[(0,Go.Operand.tmp 193)],type:=187,pos := "l06_way.go:102",after:=#[{ on:=12,ground:=Go.Ground.data }],guard:=none }, { dst:=some 195,op:=Go.Op.call { callee:=Go.Callee.builtin Go.Builtin.append,args:=#[Go.Operand.tmp 181,Go.Operand.tmp 194],argTypes:=#[187,187] },type:=187,pos := "l06_way.go:102",after:=#[{ on:=0,ground:=Go.Ground.data }, { on:=13,ground:=Go.Ground.data }, { on:=11,ground:=Go.Ground.chain }],guard:=none }, { dst:=some 7,op:=Go.Op.assign (Go.Operand.tmp 195),type:=187,pos := "l06_way.go:102",after:=#[{ on:=14,ground:=Go.Ground.data }, { on:=14,ground:=Go.Ground.chain }, { on:=0,ground:=Go.Ground.phase }, { on:=1,ground:=Go.Ground.phase }, { on:=2,ground:=Go.Ground.phase }, { on:=3,ground:=Go.Ground.phase }, { on:=4,ground:=Go.Ground.phase }, { on:=5,ground:=Go.Ground.phase }, { on:=6,ground:=Go.Ground.phase }, { on:=7,ground:=Go.Ground.phase }, { on:=8,ground:=Go.Ground.phase }, { on:=9,ground:=Go.Ground.phase }, { on:=10,ground:=Go.Ground.phase }, { on:=11,ground:=Go.Ground.phase }, { on:=12,ground:=Go.Ground.phase }, { on:=13,ground:=Go.Ground.phase }, { on:=14,ground:=Go.Ground.phase }],guard:=none }]
theorem Zsv (t0 t1 t2 t3 t4 t5 t6 t8 t9 t10 t13 t14 t15 t16 t17 t18 t19 t20 t21 t23 t24 t25 t26 t27 t28 t29 t30 t31 t32 t33 t34 t35 t36 t37 t38 t39 t40 t41 t42 t43 t44 t45 t46 t47 t48 t49 t50 t51 t52 t53 t54 t55 t56 t57 t58 t59 t60 t61 t62 t63 t64 t65 t66 t67 t68 t69 t70 t71 t72 t73 t74 t75 t76 t77 t78 t79 t80 t81 t82 t83 t84 t85 t86 t87 t88 t89 t90 t91 t92 t93 t94 t95 t96 t97 t98 t99 t100 t101 t102 t103 t104 t105 t106 t107 t108 t109 t110 t111 t112 t113 t114 t115 t116 t117 t118 t119 t120 t121 t122 t123 t124 t125 t126 t127 t128 t129 t130 t131 t132 t133 t134 t135 t136 t137 t138 t139 t140 t141 t142 t143 t144 t145 t146 t147 t148 t149 t150 t151 t152 t153 t154 t155 t156 t157 t158 t159 t160 t161 t162 t163 t164 t165 t166 t167 t168 t169 t170 t171 t172 t173 t174 t175 t176 t177 t178 t179 t180 t181 t182 t183 t184 t185 t186 t187 t188 t189 t190 t191 t192 t193 t194 t195 t196:Value)(W0:World)(lo b v:Nat)(cv:Int)(hl:List Int)(pv:Option Addr)(qv:Nat)(ua:Option Addr)(uc:Nat)(qs:List WP)(cb ch:Array Value)(Q:Exit->Act->World->Prop)(ops:Array Oper)(hops:Hid (ops=wOps))(hpan:∀ c a1 a2 w,Q (.panic c) a1 w->Q (.panic c) a2 w)
  (hv:v<=6) (hll:hl.length<=6) (hql:qs.length<=6) (hlo:lo<=W0.heap.size)
  (hb:W0.heap[b]? = some (.cells cb 3)) (hh:W0.heap[b+1]? = some (.cells ch 28)) (h1:W0.cell? (U b v)=some (M cv)) (h2:W0.cell? (U (b+1) v)=some (.slice pv hl.length qv))
  (hRV:W0.ownsRow 0 3 1 (.slice pv hl.length qv) hl.length (flat intE hl)) (hWO:WaysOwn W0 lo W0.heap.size (.slice ua qs.length uc) qs)
  (hend:∀ (W4:World) (xa:Option Addr) (xc:Nat) (na:Option Addr) (nc N:Nat),WaysOwn W4 lo W4.heap.size (.slice xa (qs.length+1) xc) (qs++[(⟨(v:Int),cv,hl⟩,.slice na hl.length nc)])->(∀ k,k<W0.heap.size->some k≠(Value.slice ua qs.length uc).ownBlock->W4.heap[k]? = W0.heap[k]?)->Below lo W0 W4->Q .normal { tmps:=#[t0,t1,t2,t3,t4,t5,t6,.slice xa (qs.length+1) xc,t8,t9,t10,.slice (some (U b 0)) 7 7,.slice (some (U (b+1) 0)) 7 7,t13,t14,t15,t16,t17,t18,t19,t20,t21,M (v:Int),t23,t24,t25,t26,t27,t28,t29,t30,t31,t32,t33,t34,t35,t36,t37,t38,t39,t40,t41,t42,t43,t44,t45,t46,t47,t48,t49,t50,t51,t52,t53,t54,t55,t56,t57,t58,t59,t60,t61,t62,t63,t64,t65,t66,t67,t68,t69,t70,t71,t72,t73,t74,t75,t76,t77,t78,t79,t80,t81,t82,t83,t84,t85,t86,t87,t88,t89,t90,t91,t92,t93,t94,t95,t96,t97,t98,t99,t100,t101,t102,t103,t104,t105,t106,t107,t108,t109,t110,t111,t112,t113,t114,t115,t116,t117,t118,t119,t120,t121,t122,t123,t124,t125,t126,t127,t128,t129,t130,t131,t132,t133,t134,t135,t136,t137,t138,t139,t140,t141,t142,t143,t144,t145,t146,t147,t148,t149,t150,t151,t152,t153,t154,t155,t156,t157,t158,t159,t160,t161,t162,t163,t164,t165,t166,t167,t168,t169,t170,t171,t172,t173,t174,t175,t176,t177,t178,t179,t180,.slice ua qs.length uc,M (v:Int),.slice (some (U b 0)) 7 7,M (v:Int),.pointer (some (U b v)),M cv,.slice (some (U W0.heap.size 0)) 0 0,.slice (some (U (b+1) 0)) 7 7,M (v:Int),.pointer (some (U (b+1) v)),.slice pv hl.length qv,.slice na hl.length nc,.agg #[M (v:Int),M cv,.slice na hl.length nc],.slice (some (U N 0)) 1 1,.slice xa (qs.length+1) xc,t196],defers:=[] } W4):
  wpAnyH Tryz.prog .any ops Q (fun W=>W.cell? (U b v)=some (M cv)/\W.cell? (U (b+1) v)=some (.slice pv hl.length qv)) 16 (Array.replicate 16 false) { tmps:=#[t0,t1,t2,t3,t4,t5,t6,.slice ua qs.length uc,t8,t9,t10,.slice (some (U b 0)) 7 7,.slice (some (U (b+1) 0)) 7 7,t13,t14,t15,t16,t17,t18,t19,t20,t21,M (v:Int),t23,t24,t25,t26,t27,t28,t29,t30,t31,t32,t33,t34,t35,t36,t37,t38,t39,t40,t41,t42,t43,t44,t45,t46,t47,t48,t49,t50,t51,t52,t53,t54,t55,t56,t57,t58,t59,t60,t61,t62,t63,t64,t65,t66,t67,t68,t69,t70,t71,t72,t73,t74,t75,t76,t77,t78,t79,t80,t81,t82,t83,t84,t85,t86,t87,t88,t89,t90,t91,t92,t93,t94,t95,t96,t97,t98,t99,t100,t101,t102,t103,t104,t105,t106,t107,t108,t109,t110,t111,t112,t113,t114,t115,t116,t117,t118,t119,t120,t121,t122,t123,t124,t125,t126,t127,t128,t129,t130,t131,t132,t133,t134,t135,t136,t137,t138,t139,t140,t141,t142,t143,t144,t145,t146,t147,t148,t149,t150,t151,t152,t153,t154,t155,t156,t157,t158,t159,t160,t161,t162,t163,t164,t165,t166,t167,t168,t169,t170,t171,t172,t173,t174,t175,t176,t177,t178,t179,t180,t181,t182,t183,t184,t185,t186,t187,t188,t189,t190,t191,t192,t193,t194,t195,t196],defers:=[] } W0:=by
 have hS0:W0.cell? (U b v)=some (M cv)/\W0.cell? (U (b+1) v)=some (.slice pv hl.length qv):=⟨h1,h2⟩;have hS1:∀ W:World,(∀ k,k<W0.heap.size->W.heap[k]? = W0.heap[k]?)->W.cell? (U b v)=some (M cv)/\W.cell? (U (b+1) v)=some (.slice pv hl.length qv):=fun W hk=>⟨(World.cell?_of_block (hk b (Zab hb))).trans h1,(World.cell?_of_block (hk (b+1) (Zab hh))).trans h2⟩;have hvi:(0:Int)<=(v:Int):=by omega
 have hvj:(v:Int)<7:=by omega
 show wpAnyH Tryz.prog .any ops Q _ 16 #[false,false,false,false,false,false,false,false,false,false,false,false,false,false,false,false] _ W0;refine ZbA 0 ?_ ?_ ?_ (by rw [hops.out];kernel_rfl) ?_ ?_ (by assumption) ?_
 rotate_left 2
 ·rw [hops.out];unfold wOps;simp only [getS];rfl
 ·intro W hW;obtain⟨k1,k2⟩:=hW;go_simp <;> with_reducible rfl
 ·exact fun c _ w h=>hpan c _ _ w h
 try simp only [putS]
 refine ZbA 1 ?_ ?_ ?_ (by rw [hops.out];kernel_rfl) ?_ ?_ (by assumption) ?_
 rotate_left 2
 ·rw [hops.out];unfold wOps;simp only [getS];rfl
 ·intro W hW;obtain⟨k1,k2⟩:=hW;go_simp <;> with_reducible rfl
 ·exact fun c _ w h=>hpan c _ _ w h
 try simp only [putS]
 refine ZbA 2 ?_ ?_ ?_ (by rw [hops.out];kernel_rfl) ?_ ?_ (by assumption) ?_
 rotate_left 2
 ·rw [hops.out];unfold wOps;simp only [getS];rfl
 ·intro W hW;obtain⟨k1,k2⟩:=hW;go_simp <;> with_reducible rfl
 ·exact fun c _ w h=>hpan c _ _ w h
 try simp only [putS]
 refine ZbA 3 ?_ ?_ ?_ (by rw [hops.out];kernel_rfl) ?_ ?_ (by assumption) ?_
 rotate_left 2
 ·rw [hops.out];unfold wOps;simp only [getS];rfl
 ·intro W hW;obtain⟨k1,k2⟩:=hW;go_simp <;> with_reducible rfl
 ·exact fun c _ w h=>hpan c _ _ w h
 try simp only [putS]
 refine ZbA 4 ?_ ?_ ?_ (by rw [hops.out];kernel_rfl) ?_ ?_ (by assumption) ?_
 rotate_left 2
 ·rw [hops.out];unfold wOps;simp only [getS];rfl
 ·intro W hW;obtain⟨k1,k2⟩:=hW;go_simp <;> with_reducible rfl
 ·exact fun c _ w h=>hpan c _ _ w h
 try simp only [putS]
 refine ZbA 5 ?_ ?_ ?_ (by rw [hops.out];kernel_rfl) ?_ ?_ (by assumption) ?_
 rotate_left 2
 ·rw [hops.out];unfold wOps;simp only [getS];rfl
 ·intro W hW;obtain⟨k1,k2⟩:=hW;go_simp <;> with_reducible rfl
 ·exact fun c _ w h=>hpan c _ _ w h
 try simp only [putS]
 refine ZbA 7 ?_ ?_ ?_ (by rw [hops.out];kernel_rfl) ?_ ?_ (by assumption) ?_
 rotate_left 2
 ·rw [hops.out];unfold wOps;simp only [getS];rfl
 ·intro W hW;obtain⟨k1,k2⟩:=hW;go_simp <;> with_reducible rfl
 ·exact fun c _ w h=>hpan c _ _ w h
 try simp only [putS]
 refine ZbA 8 ?_ ?_ ?_ (by rw [hops.out];kernel_rfl) ?_ ?_ (by assumption) ?_
 rotate_left 2
 ·rw [hops.out];unfold wOps;simp only [getS];rfl
 ·intro W hW;obtain⟨k1,k2⟩:=hW;go_simp <;> with_reducible rfl
 ·exact fun c _ w h=>hpan c _ _ w h
 try simp only [putS]
 refine ZbA 9 ?_ ?_ ?_ (by rw [hops.out];kernel_rfl) ?_ ?_ (by assumption) ?_
 rotate_left 2
 ·rw [hops.out];unfold wOps;simp only [getS];rfl
 ·intro W hW;obtain⟨k1,k2⟩:=hW;go_simp <;> with_reducible rfl
 ·exact fun c _ w h=>hpan c _ _ w h
 try simp only [putS]
 refine ZbA 10 ?_ ?_ ?_ (by rw [hops.out];kernel_rfl) ?_ ?_ (by assumption) ?_
 rotate_left 2
 ·rw [hops.out];unfold wOps;simp only [getS];rfl
 ·intro W hW;obtain⟨k1,k2⟩:=hW;go_simp <;> with_reducible rfl
 ·exact fun c _ w h=>hpan c _ _ w h
 try simp only [putS]
 refine Zev 6 (oi:=?_) ?_ (by rw [hops.out];kernel_rfl) ?_ ?_
 rotate_left 1
 ·rw [hops.out];unfold wOps;simp only [getS];rfl
 ·rw [hops.out];kernel_rfl
 intro K hK;go_simp;refine hK _ _ (hS1 _ (ZdU W0 _)) (fun hS=>?_);clear hK K
 try simp only [putS]
 refine Zev 11 (oi:=?_) ?_ (by rw [hops.out];kernel_rfl) ?_ ?_
 rotate_left 1
 ·rw [hops.out];unfold wOps;simp only [getS];rfl
 ·rw [hops.out];kernel_rfl
 intro K hK;refine Zh7 ZdI (by omega) ZcM (by omega) _ _ _ 28 rfl W0.heap.size 3 Tryz.underlying28 (M 0) rfl Tryz.info3 (.slice (some (U W0.heap.size 0)) 0 0) [] rfl (Zdw _ _ _ rfl (YA _)) 0 (.slice pv hl.length qv) hl rfl (hRV.alloc _) (by simp;omega) (by simp) ?_;intro x W2 hox hgrow;rw [List.nil_append] at hox;obtain⟨na,nc,rfl⟩:=Zac hox;simp only [Value.ownBlock] at hgrow;have k12:∀ k,k<W0.heap.size->W2.heap[k]? = W0.heap[k]? := fun k hk=>(hgrow.block k (by simp;omega) (by simp;omega)).trans (ZdU W0 _ k hk);have s12:W0.heap.size<W2.heap.size:=by have:=hgrow.size;simp at this;omega
 have B2:T_ W0 W2:=((YAC _ _).alloc (YA _) _).grown hgrow (by simp) (fun k hk=>by simp at hk;omega);refine hK _ _ (hS1 _ k12) (fun hS=>?_);clear hK K
 try simp only [putS]
 refine ZbA 12 ?_ ?_ ?_ (by rw [hops.out];kernel_rfl) ?_ ?_ (by assumption) ?_
 rotate_left 2
 ·rw [hops.out];unfold wOps;simp only [getS];rfl
 ·intro W hW;obtain⟨k1,k2⟩:=hW;go_simp <;> with_reducible rfl
 ·exact fun c _ w h=>hpan c _ _ w h
 try simp only [putS]
 refine Zev 13 (oi:=?_) ?_ (by rw [hops.out];kernel_rfl) ?_ ?_
 rotate_left 1
 ·rw [hops.out];unfold wOps;simp only [getS];rfl
 ·rw [hops.out];kernel_rfl
 intro K hK;go_simp;refine hK _ _ (hS1 _ (fun k hk=>(ZdU W2 _ k (by omega)).trans (k12 k hk))) (fun hS=>?_);clear hK K
 try simp only [putS]
 refine Zev 14 (oi:=?_) ?_ (by rw [hops.out];kernel_rfl) ?_ ?_
 rotate_left 1
 ·rw [hops.out];unfold wOps;simp only [getS];rfl
 ·rw [hops.out];kernel_rfl
 intro K hK;have rw3:=Zad hWO.row (B2.alloc B2.size (.cells #[M (v:Int),M cv,.slice na hl.length nc] 193)) (YA _);refine Zgl Zbj (by omega) (⟨(v:Int),cv,hl⟩,.slice na hl.length nc) (Zdr _ _ _ _) (by omega) _ _ _ 187 rfl lo 193 Tryz.underlying187 (.agg (wayC Zbo (.slice none 0 0))) rfl Tryz.infoWay (.slice ua qs.length uc) qs rfl rw3 (U W2.heap.size 0) 1 rfl (Zar (cs:=encW (⟨(v:Int),cv,hl⟩,.slice na hl.length nc))) (by omega) (by simp;omega) ?_;intro x W4 l' hl' hox2 hgrow2;rw [hl'.out] at hox2;have ow:=hWO.push (p:=(⟨(v:Int),cv,hl⟩,.slice na hl.length nc)) (B2.alloc B2.size _) hlo ⟨hox.alloc (.cells #[M (v:Int),M cv,.slice na hl.length nc] 193),fun k hk=>by have:=(hox.lt k hk).2;simp;omega⟩ (by simpa using hox2) hgrow2;have k4:∀ k,k<W0.heap.size->some k≠(Value.slice ua qs.length uc).ownBlock->W4.heap[k]? = W0.heap[k]? := fun k hk hne=>(hgrow2.block k (by simp;omega) hne).trans ((ZdU W2 _ k (by omega)).trans (k12 k hk));have B4:Below lo W0 W4:=((B2.alloc B2.size _).mono hlo).grown hgrow2 (by simp;omega) (fun k hk=>(hWO.row.lt k hk).1);rw [YAO,List.length_singleton] at hox2;obtain⟨xa,xc,rfl⟩:=Zac hox2;refine hK _ _ ⟨?_,?_⟩ (fun hS=>?_)
 ·rw [World.cell?_of_block (k4 b (Zab hb) (Zaq hWO.row hb (by decide)))];exact h1
 ·rw [World.cell?_of_block (k4 (b+1) (Zab hh) (Zaq hWO.row hh (by decide)))];exact h2
 clear hK K
 try simp only [putS]
 refine ZbA 15 ?_ ?_ ?_ (by rw [hops.out];kernel_rfl) ?_ ?_ (by assumption) ?_
 rotate_left 2
 ·rw [hops.out];unfold wOps;simp only [getS];rfl
 ·intro W hW;obtain⟨k1,k2⟩:=hW;go_simp <;> with_reducible rfl
 ·exact fun c _ w h=>hpan c _ _ w h
 try simp only [putS]
 refine wpAnyH_done (by rw [hops.out];kernel_rfl) ?_ _;exact hend _ xa xc na nc W2.heap.size ow k4 B4
theorem ZmB {hi:Nat}{r:RP}(h:ZaH W lo hi r):∀ u∈encP r,u.oneCell'=true:=by
 obtain⟨a,c,e⟩:=Zac h.1;obtain⟨x,v⟩:=r;simp only at e;subst e;exact Zb2 x a _ c
theorem Znk (lo i vb:Nat)(v:Value)(ps:List RP)(r:RP)(w:World)(hv:RecsOwn w lo w.heap.size v ps)(hlo:lo<=w.heap.size)(hi:i<=ps.length)(hn:ps.length<=1048576)(hvb:w.heap[vb]? = some (.cells (encP r).toArray 39 (0,0)))(hne:some vb≠v.ownBlock)(hr1:∀ u∈encP r,u.oneCell'=true):
  Calls Tryz.prog 191 #[v,M (i:Int),.slice (some (U vb 0)) 1 1] w fun e w'=>∃ v',e=.returned v'/\w'.ownsRow lo 39 8 v' (ps.length+1) (flat encP (ps.take i++[r]++ps.drop i))/\ZgP w w' v.ownBlock v':=by
 by_cases he:i=ps.length
 ·rw [he];exact Zr4 lo ps.length 1 vb v ps r w rfl rfl hlo hn hv.row hvb hr1
 ·have hone:∀ p∈ps,∃ a k c,p.2=.slice a k c:=fun p hp=>by
   obtain⟨a,c,e⟩:=Zac (hv.nears p hp).1;exact⟨a,_,c,e⟩
  rcases hv.row.2 with ⟨_,h0⟩ | ⟨g,cap,cur,hve,_⟩
  ·omega
  ·subst hve;have hne2:vb≠g:=fun e=>hne (by rw [e];rfl);by_cases hroom:ps.length+1<=cap
   ·exact ZoW lo g cap ps.length 1 i vb ps r w rfl rfl hv.row (by omega) hroom hvb hne2 hone hr1
   ·exact ZqF lo g cap ps.length 1 i vb ps r w rfl rfl hlo hn hv.row (by omega) (by omega) hvb hone hr1
theorem RecsOwn.ins {i:Nat}{v v':Value}{ps:List RP}{r:RP}(h:RecsOwn W lo W.heap.size v ps)(hr:ZaH W lo W.heap.size r)(hap:∀ p∈ps,ZeS p r)(hi:i<=ps.length)
  (row:W2.ownsRow lo 39 8 v' (ps.length+1) (flat encP (ps.take i++[r]++ps.drop i))) (hg:W.grownBy W2 v.ownBlock):RecsOwn W2 lo W2.heap.size v' (ps.take i++[r]++ps.drop i) where
 row:=by rw [Zg9 ps r i hi];exact row
 top:=fun k hk=>(row.lt k hk).2
 nears:=by
  intro q hq;refine Ziq h hg ?_;rcases YAF.1 hq with h1 | h1
  ·rcases YAF.1 h1 with h2 | h2
   ·exact h.nears q (YAl h2)
   ·have:q=r:=by simpa using h2
    subst this;exact hr
  ·exact h.nears q (List.mem_of_mem_drop h1)
 apart:=by
  have hp:=h.apart;rw [<-YAa i ps,YAQ] at hp;rw [YAW,YAQ];refine⟨hp.1,?_,?_⟩
  ·rw [YAQ];refine⟨by simp,hp.2.1,?_⟩;intro a ha b hb;have:a=r:=by simpa using ha
   subst this;exact (hap b (List.mem_of_mem_drop hb)).symm
  ·intro a ha b hb;rcases YAF.1 hb with h1 | h1
   ·have:b=r:=by simpa using h1
    subst this;exact hap a (YAl ha)
   ·exact hp.2.2 a ha b h1
structure PutFine (v:Value) (ps:List RP) (r:RP) (w w':World) (x:Value) (qs:List RP):Prop where
 keep:∀ k,k<w.heap.size->v.ownBlock≠some k->w'.heap[k]? = w.heap[k]?
 row:∀ k,x.ownBlock=some k->v.ownBlock=some k\/w.heap.size<=k
 near:∀ q∈qs,q∈ps\/q.2=r.2
theorem ZoY (v:Value)(ps:List RP)(lo:Nat)(r:RP)(w:World)(hv:RecsOwn w lo w.heap.size v ps)(hlo:lo<=w.heap.size)(hn:tot ps<=1048576)(hasc:Asc (fsts ps))(hr:ZaH w lo w.heap.size r)(hap:∀ p∈ps,ZeS p r):
  Calls Tryz.prog 136 #[v,.agg (recC r.1 r.2)] w fun e w'=>∃ x qs,e=.returned x/\fsts qs=putD (fsts ps) r.1/\RecsOwn w' lo w'.heap.size x qs/\Below lo w w'/\PutFine v ps r w w' x qs:=by
 have hnl:=Zby ps;have hfl:(fsts ps).length=ps.length:=by simp [fsts]
 obtain⟨a1,c1,hve⟩:=Zac hv.row;obtain⟨ra,rc,hrn⟩:=Zac hr.1;have BX:T_ w (w.alloc (.cells #[M r.1.area,M r.1.kind,M r.1.owner,M r.1.key,M r.1.seq,.slice ra r.1.near.length rc,M r.1.cost,.bool r.1.far] 39)):=(YAC _ _).alloc (YA _) _;have hx:=YAE w (.cells #[M r.1.area,M r.1.kind,M r.1.owner,M r.1.key,M r.1.seq,.slice ra r.1.near.length rc,M r.1.cost,.bool r.1.far] 39);obtain⟨w0,hw0⟩:∃ w0,w0=w.alloc (.cells #[M r.1.area,M r.1.kind,M r.1.owner,M r.1.key,M r.1.seq,.slice ra r.1.near.length rc,M r.1.cost,.bool r.1.far] 39):=⟨_,rfl⟩;rw [<-hw0] at BX hx;have hs0:=Zab hx;have hv0:=hv.below BX (YA _);have hr0:=hr.keep (W':=w0) (fun k _ _ h3=>BX.block k h3);have HS:=Ziy v ps w.heap.size r w0 hv0.in BX.size hn (hr0.wide (Nat.zero_le _) (YA _)) (by rw [<-hfl];exact ZiO hasc r.1);have d0:=Zaa hx 0;have d1:=Zaa hx 1;have d2:=Zaa hx 2;have d3:=Zaa hx 3;have d4:=Zaa hx 4;have d5:=Zaa hx 5;have d6:=Zaa hx 6;have d7:=Zaa hx 7;simp at d0 d1 d2 d3 d4 d5 d6 d7;have HV:=hide hv0;have HR:=hide hr0;have HA:=hide hasc;have HP:=hide hap;have H1:=hide hr;have HFL:=hide hfl;have HRN:=hide hrn;have HVE:=hide hve;unfold recC at *;rw [hrn] at HS |-;subst hve;have HSS:=hide HS;clear HS hv0 hr0 hasc hap hr hrn hv hfl
 go_enter Tryz.func136,Tryz.ntmps136
 go_wp2_with fail
 rw [<-hw0];clear hw0;refine HSS.out.mono ?_;rintro e w1 ⟨i,f,rfl,hil,q1,q2,q3,b1⟩;have b1s:=b1.size;have hx1:=(b1.block _ hs0).trans hx;have B1:T_ w w1:=BX.trans (b1.mono BX.size);have hv1:=(HV.out.below b1 (by omega)).wide (YA _) (show w.heap.size<=w1.heap.size by omega);have hr1:=((HR).keep (W':=w1) (fun k _ _ h3=>b1.block k h3)).wide (YA _) (show w.heap.size<=w1.heap.size by omega);have Q1:=hide q1;have Q2:=hide q2;have Q3:=hide q3;clear q1 q2 q3 d0 d1 d2 d3 d4 d5 d6 d7 hx b1;have d0:=Zaa hx1 0;have d1:=Zaa hx1 1;have d2:=Zaa hx1 2;have d3:=Zaa hx1 3;have d4:=Zaa hx1 4;have d5:=Zaa hx1 5;have d6:=Zaa hx1 6;have d7:=Zaa hx1 7;simp at d0 d1 d2 d3 d4 d5 d6 d7;have hii:(0:Int)<=(i:Int):=by omega
 cases f with
 | true=>
  have hil2:i<ps.length:=by
   obtain⟨x,hx,_⟩:=Q3.out.1 rfl;have:=(YAD.1 hx).1;rw [HFL.out] at this;exact this
  have hij:(i:Int)<(ps.length:Int):=by omega
  rcases hv1.row.2 with ⟨_,h0⟩ | ⟨g,cap,cur,hve,_⟩
  ·omega
  ·cases hve;have hpr:r=(r.1,.slice ra r.1.near.length rc):=by rw [<-HRN.out]
   have hfin:=hv1.put (i:=i) rfl hr1 HP hil2;have hg:=ZeM w1 g (i*8) r;have hgl:=hv1.row.lt g rfl;have hB:Below lo w (putP w1 g (i*8) r):=(B1.mono hlo).grown hg (by omega) (fun k hk=>by simp at hk;omega);have hl:fsts (ps.set i r)=putD (fsts ps) r.1:=by
    obtain⟨x,hx,h0⟩:=Q3.out.1 rfl;obtain⟨hi2,ex⟩:=YAD.1 hx;rw [Zmi,ZmN HA.out hi2 Q1.out (by rw [HFL.out];exact Q2.out) (by rw [ex];exact h0)]
   obtain⟨y0,f0⟩:=ZaM hv1.row (i*8) (by omega);obtain⟨y1,f1⟩:=ZaM hv1.row (i*8+1) (by omega);obtain⟨y2,f2⟩:=ZaM hv1.row (i*8+2) (by omega);obtain⟨y3,f3⟩:=ZaM hv1.row (i*8+3) (by omega);obtain⟨y4,f4⟩:=ZaM hv1.row (i*8+4) (by omega);obtain⟨y5,f5⟩:=ZaM hv1.row (i*8+5) (by omega);obtain⟨y6,f6⟩:=ZaM hv1.row (i*8+6) (by omega);obtain⟨y7,f7⟩:=ZaM hv1.row (i*8+7) (by omega);have fz:=fun j=>hv1.row.frozenAt j;have hne:g≠w.heap.size:=by
    intro e;have h5:=HV.out.top g rfl;omega
   have hpf:∀ r':RP,r'=r->PutFine (.slice (some (U g 0)) ps.length c1) ps r w (putP w1 g (i*8) r') (.slice (some (U g 0)) ps.length c1) (ps.set i r'):=by
    rintro r' rfl;refine⟨fun k h1 h2=>?_,fun k hk=>.inl hk,fun q hq=>?_⟩
    ·rw [(ZeM w1 g (i*8) r').block k (by omega) (fun e=>h2 e.symm)];exact B1.block k h1
    ·rcases List.mem_or_eq_of_mem_set hq with h | h
     ·exact .inl h
     ·exact .inr (by rw [h])
   have HPF:=hide (hpf _ hpr.symm);clear hpf;rw [hpr] at hfin hB hl;have HF:=hide hfin;have HB:=hide hB;have HL:=hide hl;clear hfin hB hl hpr hg hv1 hr1;go_wp2;go_ret
   first
    | exact ⟨_,ps.set i (r.1,.slice ra r.1.near.length rc),rfl,HL,HF,HB,HPF⟩
    | exact ⟨_,rfl,ps.set i (r.1,.slice ra r.1.near.length rc),HL,HF,HB,HPF⟩
 | false=>
  have hl:fsts (ps.take i++[r]++ps.drop i)=putD (fsts ps) r.1:=by
   rw [Zmh,ZmM HA.out (by rw [HFL.out];exact hil) Q1.out (by rw [HFL.out];exact Q2.out) (fun h=>by have:=Q3.out.2 h;cases this)]
  have HL:=hide hl;clear hl;have BY:T_ w1 (w1.alloc (.cells #[M r.1.area,M r.1.kind,M r.1.owner,M r.1.key,M r.1.seq,.slice ra r.1.near.length rc,M r.1.cost,.bool r.1.far] 39)):=(YAC _ _).alloc (YA _) _;have hy:=YAE w1 (.cells #[M r.1.area,M r.1.kind,M r.1.owner,M r.1.key,M r.1.seq,.slice ra r.1.near.length rc,M r.1.cost,.bool r.1.far] 39);obtain⟨w2,hw2⟩:∃ w2,w2=w1.alloc (.cells #[M r.1.area,M r.1.kind,M r.1.owner,M r.1.key,M r.1.seq,.slice ra r.1.near.length rc,M r.1.cost,.bool r.1.far] 39):=⟨_,rfl⟩;rw [<-hw2] at BY hy;have hv2:=(hv1.below BY (YA _)).wide (YA _) BY.size;have hr2:=(hr1.keep (W':=w2) (fun k _ _ h3=>BY.block k h3)).wide (YA _) BY.size;have HI:=Znk lo i w1.heap.size _ ps r w2 hv2 (by have:=BY.size;omega) hil (by omega) (by
   rw [hy];unfold encP;rw [HRN.out]) (fun e=>by
    have h6:=hv1.top _ e.symm;omega) (ZmB hr2)
  have HII:=hide HI;have HV2:=hide hv2;have HR2:=hide hr2;have B2:T_ w w2:=B1.trans (BY.mono (by omega));have hb2:=BY.size;clear HI hv1 hr1 hv2 hr2
  go_wp2_with fail
  rw [<-hw2];clear hw2;refine HII.out.mono ?_;rintro e w3 ⟨x,rfl,hrow,hg,hgv⟩;have hfin:=HV2.out.ins HR2 HP hil hrow hg;have hB:Below lo w w3:=(B2.mono hlo).grown hg (by omega) (fun k hk=>(HV2.out.row.lt k hk).1);obtain⟨xa,xc,rfl⟩:=Zac hrow;have hpf:PutFine (.slice a1 ps.length c1) ps r w w3 (.slice xa (ps.length+1) xc) (ps.take i++[r]++ps.drop i):=by
   refine⟨fun k h1 h2=>?_,fun k hk=>?_,fun q hq=>?_⟩
   ·rw [hg.block k (by have:=B2.size;omega) (fun e=>h2 e.symm)];exact B2.block k h1
   ·rcases hgv k hk with h | h
    ·exact .inl h
    ·exact .inr (by have:=B2.size;omega)
   ·rcases YAF.1 hq with h | h
    ·rcases YAF.1 h with h | h
     ·exact .inl (YAl h)
     ·exact .inr (by rw [YAy.1 h])
    ·exact .inl (List.mem_of_mem_drop h)
  have HPF:=hide hpf;have HF:=hide hfin;have HB:=hide hB;clear hfin hB hrow hg hgv hpf;go_wp2;go_ret
  first
   | exact ⟨_,_,rfl,HL,HF,HB,HPF⟩
   | exact ⟨_,rfl,_,HL,HF,HB,HPF⟩
def ptrO:Option Nat->Value
 | some k=>.pointer (some (U k 0))
 | none=>.pointer none
def finC (bp:Nat->Option Nat)(u:Value):Array Value:=#[ptrO (bp 0),ptrO (bp 1),ptrO (bp 2),ptrO (bp 3),ptrO (bp 4),ptrO (bp 5),ptrO (bp 6),u]
theorem ZrX (bp:Nat->Option Nat)(u:Value)(ht:1<=t/\t<=6):(finC bp u)[t]? = some (ptrO (bp t)):=by
 rcases Zgc ht with rfl | rfl | rfl | rfl | rfl | rfl <;> rfl
theorem Zqo (bp:Nat->Option Nat)(u:Value)(ht:1<=t/\t<=6)(k:Nat):(finC bp u).setIfInBounds t (.pointer (some (U k 0)))=finC (upd bp t (some k)) u:=by
 rcases Zgc ht with rfl | rfl | rfl | rfl | rfl | rfl <;> simp [finC,upd,ptrO]
theorem Zg1 (bp:Nat->Option Nat)(u u':Value):(finC bp u).setIfInBounds 7 u'=finC bp u':=by simp [finC]
structure FS (W:World) (lo z:Nat) (u:Value) (n:Nat) (q:Nat->Nat) (bp:Nat->Option Nat) (wd:Nat->WayD) (wv:Nat->Value):Prop where
 lz:lo<=z
 hb:HB W lo z (finC bp u) u n q wd wv
 hp:Zc7 (fun k=>(wd k).cost) q n
 way:∀ v k,bp v=some k->W.heap[k]? = some (.cells (wayC (wd k) (wv k)) 193)/\lo<=k
 row:∀ v k,bp v=some k->W.ownsRow lo 3 1 (wv k) (wd k).hops.length (flat intE (wd k).hops)
 short:∀ v k,bp v=some k->(wd k).hops.length<=6
 apart:∀ v v' k k',v≠v'->bp v=some k->bp v'=some k'->∀ b,(wv k).ownBlock=some b->(wv k').ownBlock≠some b
 to:∀ v k,bp v=some k->(wd k).to=(v:Int)
 b0:bp 0=none
theorem FS.size (s:FS W lo z u n q bp wd wv):lo<=W.heap.size:=by
 have:=Zab s.hb.box;have:=s.lz;omega
theorem FS.below {W':World}(s:FS W lo z u n q bp wd wv)(hb:T_ W W'):FS W' lo z u n q bp wd wv:=
 ⟨s.lz,s.hb.below hb,s.hp,fun v k e=>⟨(hb.block _ (Zab (s.way v k e).1)).trans (s.way v k e).1,(s.way v k e).2⟩,fun v k e=>Zad (s.row v k e) hb (YA _),s.short,s.apart,s.to,s.b0⟩
theorem FS.known (s:FS W lo z u n q bp wd wv)(ht:1<=t/\t<=6):W.cell? (U z t)=some (ptrO (bp t)):=(Zaa s.hb.box t).trans (ZrX bp u ht)
theorem FS.put (s:FS W lo z u n q bp wd wv)(ht:1<=t/\t<=6)(x:WayD)(v:Value)
  (hq:∀ i,i<n->q i≠k) (hk:W.heap[k]? = some (.cells (wayC x v) 193)):
  HB (W.setCell (U z t) (.pointer (some (U k 0)))) lo z (finC (upd bp t (some k)) u) u n q (upd wd k x) (upd wv k v)/\(W.setCell (U z t) (.pointer (some (U k 0)))).heap[k]? = some (.cells (wayC (upd wd k x k) (upd wv k v k)) 193)/\FK W (W.setCell (U z t) (.pointer (some (U k 0)))) lo z:=by
 have hkz:∀ (j:Nat) (cs:Array Value),W.heap[j]? = some (.cells cs 193)->(W.setCell (U z t) (.pointer (some (U k 0)))).heap[j]? = some (.cells cs 193):=by
  intro j cs hj;rw [YAU W (U z t) j _ (fun e=>by
   have e':j=z:=e;rw [e',s.hb.box] at hj;simp at hj)]
  exact hj
 refine⟨⟨?_,rfl,?_,fun i hi=>?_,fun i hi=>?_⟩,?_,FK.of_set _ s.lz⟩
 ·have e:=YAd W z t _ _ (.pointer (some (U k 0))) s.hb.box;rw [Zqo bp u ht k] at e;exact e
 ·exact Zal s.hb.hq.row (fun j hj=>YAU W (U z t) j _ (fun e=>by
   have e':j=z:=e;exact Zaq s.hb.hq.row s.hb.box (by decide) (by rw [hj,e'])))
 ·rw [Zao _ _ (hq i hi),Zao _ _ (hq i hi)];exact hkz _ _ (s.hb.hq.way i hi)
 ·rw [Zao _ _ (hq i hi)];exact s.hb.hq.sl i hi
 ·rw [Zau,Zau];exact hkz _ _ hk
theorem FS.pushed {W':World}{u':Value}{q':Nat->Nat}(s:FS W lo z u n q bp wd wv)(ht:1<=t/\t<=6){x:WayD}{v:Value}(hx:x.to=(t:Int))(hxl:x.hops.length<=6)
  (hk:W.heap[k]? = some (.cells (wayC x v) 193)) (hlk:lo<=k) (hbk:∀ v,bp v≠some k) (hrow:W.ownsRow lo 3 1 v x.hops.length (flat intE x.hops)) (hfr:∀ v' k' b,bp v'=some k'->(wv k').ownBlock=some b->v.ownBlock≠some b)
  (f1:FK W W2 lo z) (f2:FK W2 W' lo z) (hb':HB W' lo z (finC (upd bp t (some k)) u') u' (n+1) q' (upd wd k x) (upd wv k v)) (hi:Zc7 (fun k'=>(upd wd k x k').cost) q' (n+1)):FS W' lo z u' (n+1) q' (upd bp t (some k)) (upd wd k x) (upd wv k v):=by
 have F:=f1.trans f2;have keepW:∀ (j:Nat) (cs:Array Value),W.heap[j]? = some (.cells cs 193)->W'.heap[j]? = some (.cells cs 193):=by
  intro j cs hj;exact (F.typed j cs _ _ hj (by decide) (fun e=>by rw [e,s.hb.box] at hj;simp at hj)).trans hj
 have keepR:∀ (v:Value) (l:List Int),W.ownsRow lo 3 1 v l.length (flat intE l)->W'.ownsRow lo 3 1 v l.length (flat intE l):=by
  intro v l ho;refine Zal ho (fun j hj=>?_);rcases ho.2 with ⟨e1,_⟩ | ⟨g2,cap,cur,e1,_,hh,_⟩
  ·rw [e1] at hj;cases hj
  ·rw [e1] at hj;simp [Value.ownBlock] at hj;subst hj;exact F.typed _ _ _ _ hh (by decide) (fun e=>by rw [e,s.hb.box] at hh;simp at hh)
 have wb:∀ v k',bp v=some k'->k'≠k:=fun v k' e e2=>hbk v (by rw [e,e2]);refine⟨s.lz,hb',hi,fun v' k' e=>?_,fun v' k' e=>?_,fun v' k' e=>?_,fun v1 v2 k1 k2 hne e1 e2 b hb1 hb2=>?_,fun v' k' e=>?_,?_⟩
 ·by_cases e2:v'=t
  ·subst e2;rw [Zau] at e;cases e;rw [Zau,Zau];exact⟨keepW _ _ hk,hlk⟩
  ·rw [Zao _ _ e2] at e;rw [Zao _ _ (wb v' k' e),Zao _ _ (wb v' k' e)];exact⟨keepW _ _ (s.way v' k' e).1,(s.way v' k' e).2⟩
 ·by_cases e2:v'=t
  ·subst e2;rw [Zau] at e;cases e;rw [Zau,Zau];exact keepR _ _ hrow
  ·rw [Zao _ _ e2] at e;rw [Zao _ _ (wb v' k' e),Zao _ _ (wb v' k' e)];exact keepR _ _ (s.row v' k' e)
 ·by_cases e2:v'=t
  ·subst e2;rw [Zau] at e;cases e;rw [Zau];exact hxl
  ·rw [Zao _ _ e2] at e;rw [Zao _ _ (wb v' k' e)];exact s.short v' k' e
 ·by_cases a1:v1=t
  ·subst a1;rw [Zau] at e1;cases e1;rw [Zau] at hb1;rw [Zao _ _ (fun e=>hne e.symm)] at e2;rw [Zao _ _ (wb v2 k2 e2)] at hb2;exact hfr v2 k2 b e2 hb2 hb1
  ·rw [Zao _ _ a1] at e1;rw [Zao _ _ (wb v1 k1 e1)] at hb1;by_cases a2:v2=t
   ·subst a2;rw [Zau] at e2;cases e2;rw [Zau] at hb2;exact hfr v1 k1 b e1 hb1 hb2
   ·rw [Zao _ _ a2] at e2;rw [Zao _ _ (wb v2 k2 e2)] at hb2;exact s.apart v1 v2 k1 k2 hne e1 e2 b hb1 hb2
 ·by_cases e2:v'=t
  ·subst e2;rw [Zau] at e;cases e;rw [Zau];exact hx
  ·rw [Zao _ _ e2] at e;rw [Zao _ _ (wb v' k' e)];exact s.to v' k' e
 ·rw [Zao _ _ (by omega)];exact s.b0
theorem FS.joined (s:FS W lo z u n q bp wd wv){B:Nat}{y:WayD}{vy:Value}(hbt:bp t=some k)(hc:y.cost=(wd k).cost)(hto:y.to=(wd k).to)(hyl:y.hops.length<=6)
  (hb2:T_ W W2) (hB:W.heap.size<=B) (hrow:W2.ownsRow B 3 1 vy y.hops.length (flat intE y.hops)):FS (Zbb W2 k y vy) lo z u n q bp (upd wd k y) (upd wv k vy):=by
 have s2:=s.below hb2;have hk:=(s2.way t k hbt).1;have G:=Za7 W2 k y vy;have hfin:(Zbb W2 k y vy).heap[k]? = some (.cells (wayC y vy) 193):=ZdA y vy (by rw [hk];rfl);have hcost:∀ k',(upd wd k y k').cost=(wd k').cost:=by
  intro k';by_cases e:k'=k
  ·rw [e,Zau];exact hc
  ·rw [Zao _ _ e]
 have hkz:z≠k:=fun e=>by rw [<-e,s2.hb.box] at hk;simp at hk
 have keepR:∀ (b0:Nat) (v:Value) (l:List Int),W2.ownsRow b0 3 1 v l.length (flat intE l)->(Zbb W2 k y vy).ownsRow b0 3 1 v l.length (flat intE l):=by
  intro b0 v l ho;refine Zal ho (fun j hj=>G.block j (ho.lt j hj).2 (fun e=>?_));have e':j=k:=by simpa using e
  exact Zaq ho hk (by decide) (by rw [hj,e'])
 have hway:∀ k',(∃ x v,W2.heap[k']? = some (.cells (wayC x v) 193)/\x=wd k'/\v=wv k')->(Zbb W2 k y vy).heap[k']? = some (.cells (wayC (upd wd k y k') (upd wv k vy k')) 193):=by
  rintro k' ⟨x,v,h1,rfl,rfl⟩;by_cases e:k'=k
  ·rw [e,Zau,Zau];exact hfin
  ·rw [Zao _ _ e,Zao _ _ e,G.block k' (Zab h1) (by simpa using e)];exact h1
 have lowRow:∀ v' k',bp v'=some k'->∀ b,(wv k').ownBlock=some b->b<W.heap.size:=fun v' k' e b hb=>((s.row v' k' e).lt b hb).2;have newRow:∀ b,vy.ownBlock=some b->W.heap.size<=b:=fun b hb=>by have:=(hrow.lt b hb).1;omega
 refine⟨s.lz,⟨?_,rfl,?_,fun i hi=>?_,fun i hi=>?_⟩,?_,fun v' k' e=>⟨hway k' ⟨_,_,(s2.way v' k' e).1,rfl,rfl⟩,(s.way v' k' e).2⟩,fun v' k' e=>?_,fun v' k' e=>?_,fun v1 v2 k1 k2 hne e1 e2 b hb1 hb2=>?_,fun v' k' e=>?_,s.b0⟩
 ·rw [G.block z (Zab s2.hb.box) (by simpa using hkz)];exact s2.hb.box
 ·refine Zal s2.hb.hq.row (fun j hj=>G.block j (s2.hb.hq.row.lt j hj).2 (fun e=>?_));have e':j=k:=by simpa using e
  exact Zaq s2.hb.hq.row hk (by decide) (by rw [hj,e'])
 ·exact hway (q i) ⟨_,_,s2.hb.hq.way i hi,rfl,rfl⟩
 ·by_cases e:q i=k
  ·rw [e,Zau];obtain⟨a,c,e2⟩:=Zac hrow;exact⟨a,_,c,e2⟩
  ·rw [Zao _ _ e];exact s.hb.hq.sl i hi
 ·intro i h0 hi;show (upd wd k y (q (par i))).cost<=(upd wd k y (q i)).cost;rw [hcost,hcost];exact s.hp i h0 hi
 ·by_cases e2:k'=k
  ·rw [e2,Zau,Zau];exact Zaf (keepR B vy y.hops hrow) (by have:=s.size;omega)
  ·rw [Zao _ _ e2,Zao _ _ e2];exact keepR lo _ _ (s2.row v' k' e)
 ·by_cases e2:k'=k
  ·rw [e2,Zau];exact hyl
  ·rw [Zao _ _ e2];exact s.short v' k' e
 ·by_cases a1:k1=k
  ·have a2:k2≠k:=fun a2=>by
    have h1:=s.to v1 k1 e1;have h2:=s.to v2 k2 e2;rw [a1] at h1;rw [a2] at h2;omega
   rw [a1,Zau] at hb1;rw [Zao _ _ a2] at hb2;have h1:=newRow b hb1;have h2:=lowRow v2 k2 e2 b hb2;omega
  ·rw [Zao _ _ a1] at hb1;by_cases a2:k2=k
   ·rw [a2,Zau] at hb2;have h1:=newRow b hb2;have h2:=lowRow v1 k1 e1 b hb1;omega
   ·rw [Zao _ _ a2] at hb2;exact s.apart v1 v2 k1 k2 hne e1 e2 b hb1 hb2
 ·by_cases e2:k'=k
  ·rw [e2,Zau,hto];rw [e2] at e;exact s.to v' k e
  ·rw [Zao _ _ e2];exact s.to v' k' e
theorem ZnN (h:Za2 x=true)(hk:x.kind=1):x.key=0:=by
 unfold Za2 at h;simp only [YAM] at h;have h2:=h.2;rw [if_pos hk] at h2;simp only [YAM,beq_iff_eq] at h2;exact h2.1.1.1.2
theorem ZkF (h:ZaA xs=true)(hx:x∈xs):Za2 x=true:=by
 unfold ZaA at h;simp only [YAM] at h;exact ZdD h.1.2 hx
theorem Zhl (h:ZaA xs=true){area owner:Int}(hx:x∈xs):Zhk area owner x=Zat x (ZgB area owner):=by
 have hok:=ZkF h hx;unfold Zhk Zat ZgB;by_cases hk:x.kind=1
 ·have:=ZnN hok hk;simp [this]
 ·have hb:(x.kind==1)=false:=by simpa using hk
  simp [hb]
theorem Zkx (h:ZaA xs=true)(area owner:Int):plN xs area owner=xs.findIdx? (fun x=>Zat x (ZgB area owner)):=by
 unfold plN;cases e:xs.findIdx? (Zhk area owner) with
 | none=>
  rw [List.findIdx?_eq_none_iff] at e;rw [Eq.comm,List.findIdx?_eq_none_iff];intro x hx;rw [<-Zhl h hx];exact e x hx
 | some k=>
  obtain⟨h1,h2,h3⟩:=List.findIdx?_eq_some_iff_getElem.1 e;rw [Eq.comm,List.findIdx?_eq_some_iff_getElem];refine⟨h1,?_,fun j hj=>?_⟩
  ·rw [<-Zhl h (YAw _)];exact h2
  ·rw [<-Zhl h (YAw _)];exact h3 j hj
theorem ZnC (h:ZaA xs=true)(area owner:Int):Zhj xs area owner=(plN xs area owner).isSome:=by
 unfold Zhj Zfb atZ;rw [<-Zkx h];cases plN xs area owner with
 | none=>rfl
 | some k=>
  show (!decide ((k:Int)<0))=true;simp
theorem ZiE (h:ZaA xs=true)(area owner to:Int):Zjy xs area owner to=((ZcC xs area owner).near.find? (fun n=>n.to==to)).map (·.c):=by
 unfold Zjy ZcC ZfE atZ;rw [<-Zkx h];cases e:plN xs area owner with
 | none=>rfl
 | some k=>
  obtain⟨x,hx,_,_⟩:=ZrH e;show (match xs[k]? with
   | some x=>(x.near.find? (fun (n:Nr)=>n.to==to)).map (fun (n:Nr)=>n.c)
   | none=>none)=_
  rw [hx];show _=(((if ((k:Int)<0) then Zbf else xs.getD ((k:Int)).toNat Zbf).near.find? (fun (n:Nr)=>n.to==to)).map (fun (n:Nr)=>n.c));rw [if_neg (by omega)];simp [hx]
def AscN (ns:List Nr):Prop:=∀ (i j:Nat) (a b:Nr),i<j->ns[i]? = some a->ns[j]? = some b->a.to<b.to
theorem ZnB {o:Int}{ns:List Nr}(h:Zbs o ns=true):AscN ns:=by
 unfold Zbs at h;simp only [YAM] at h;have hasc:=h.2;unfold ascB at hasc;rw [List.all_eq_true] at hasc;have step:∀ (j:Nat) (a b:Nr),ns[j]? = some a->ns[j+1]? = some b->a.to<b.to:=by
  intro j a b ha hb;have hj:j+1<ns.length:=(YAD.1 hb).1;have:=hasc (j+1) (by simpa using hj);unfold Zcm at this;simp only [ha,hb] at this;unfold ordN at this;simp at this;omega
 intro i j a b hij
 induction j generalizing b with
 | zero=>omega
 | succ j ih=>
  intro ha hb;have hj:j+1<ns.length:=(YAD.1 hb).1;obtain⟨m,hm⟩:∃ m,ns[j]? = some m:=⟨ns[j]'(by omega),YAA (by omega)⟩;have s:=step j m b hm hb;by_cases e:i=j
  ·subst e;rw [ha] at hm;cases hm;exact s
  ·have:=ih m (by omega) ha hm;omega
theorem Znr {ns:List Nr}{bk:Int->Int}{v:Nat}(hv:1<=v/\v<=6)(hasc:AscN ns):∀ k,k<=ns.length->Zej ns bk v k=(if 0<bk (v:Int) then (((ns.take k).find? (fun n=>n.to==(v:Int))).map (·.c)).getD 0 else 0):=by
 intro k
 induction k with
 | zero=>intro _;simp [Zej]
 | succ k ih=>
  intro hk;have hlt:k<ns.length:=by omega
  rw [ZeG bk v (YAA hlt),ih (by omega),YAI hlt,List.find?_append];by_cases e:ns[k].to=(v:Int)
  ·by_cases hb:0<bk (v:Int)
   ·rw [if_pos ⟨e,by rw [e];exact Zeg.2 (by omega),by rw [e];exact hb⟩,if_pos hb];have hno:(ns.take k).find? (fun n=>n.to==(v:Int))=none:=by
     rw [List.find?_eq_none];intro x hx;obtain⟨i,hi,e2⟩:=List.mem_iff_getElem.1 hx;rw [YAS] at hi;rw [List.getElem_take] at e2;have:=hasc i k x ns[k] (by omega) (by rw [YAA (by omega),e2]) (YAA hlt);simp;omega
    rw [hno];simp [e]
   ·rw [if_neg (fun hc=>by rw [e] at hc;exact hb hc.2.2),if_neg hb,if_neg hb]
  ·rw [if_neg (fun hc=>e hc.1)];have e2:(ns[k].to==(v:Int))=false:=by simpa using e
   simp [e2]
theorem Zkl (h:ZaA xs=true)(area:Int){u v:Nat}(hu:1<=u/\u<=6)(hv:1<=v/\v<=6):Zhe xs area (u:Int) (v:Int)=Zei xs area u v:=by
 unfold Zhe Zei;rw [if_pos ⟨hu,hv⟩,ZiE h,ZiE h];unfold Znq;have hasc:AscN (ZcC xs area (u:Int)).near:=by
  unfold ZcC;rcases Zj9 (xs:=xs) (r:=ZgB area (u:Int)) with hm | he
  ·rcases Zhw (ZkF h hm) with e | ⟨_,e⟩
   ·rw [e];intro i j a b _ ha _;simp at ha
   ·exact ZnB e
  ·rw [he];intro i j a b _ ha _;simp [Zbf] at ha
 rw [Znr hv hasc _ (YA _),YAf];have hback:∀ c,((ZcC xs area (v:Int)).near.find? (fun n=>n.to==(u:Int))).map (·.c)=some c->0<c:=by
  intro c hc;obtain⟨n,hn,rfl⟩:=Option.map_eq_some_iff.1 hc;have:=Zhm (area:=area) (node:=(v:Int)) h n (List.mem_of_find?_eq_some hn);omega
 have htell:Ze4 xs area (v:Int) (u:Int)=(((ZcC xs area (v:Int)).near.find? (fun n=>n.to==(u:Int))).map (·.c)).getD 0:=by
  unfold Ze4 ZhK;cases (ZcC xs area (v:Int)).near.find? (fun n=>n.to==(u:Int)) <;> rfl
 cases e:((ZcC xs area (v:Int)).near.find? (fun n=>n.to==(u:Int))).map (·.c) with
 | none=>
  rw [if_neg (by rw [htell,e];simp)]
 | some c=>
  rw [if_pos (by rw [htell,e];exact hback c e)];cases ((ZcC xs area (u:Int)).near.find? (fun n=>n.to==(v:Int))) <;> rfl
end Go.Proofs.YtcnjnibnecpddaaGreat
