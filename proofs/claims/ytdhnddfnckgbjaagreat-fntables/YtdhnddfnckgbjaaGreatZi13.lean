/-
  Parts.
-/
import Derived.Test.YtdhnddfnckgbjaaGreatZi11
import Derived.Test.YtdhnddfnckgbjaaGreatZi12
namespace Go.Proofs.YtdhnddfnckgbjaaGreat
open Go.RowKit
set_option linter.unusedSimpArgs false
set_option linter.unusedVariables false
set_option maxRecDepth 100000
set_option maxHeartbeats 8000000
variable {src u v:Nat}{F:Nat->Bool}{c:Nat->Int}{h:Nat->List Int}{L:Nat->Nat->Int}
def Zdm (F:Nat->Bool):Nat:=(F 1).toNat+(F 2).toNat+(F 3).toNat+(F 4).toNat+(F 5).toNat+(F 6).toNat
theorem ZkJ (h:1<=u/\u<=6):u=1\/u=2\/u=3\/u=4\/u=5\/u=6:=by omega
theorem Zfq (hu:1<=u/\u<=6)(hF:F u=false):Zdm (fun v=>F v||v==u)=Zdm F+1:=by
 unfold Zdm;rcases ZkJ hu with rfl | rfl | rfl | rfl | rfl | rfl <;> simp [hF] <;> omega
theorem ZiX (F:Nat->Bool):Zdm F<=6:=by
 unfold Zdm;have h1:=Bool.toNat_le (F 1);have h2:=Bool.toNat_le (F 2);have h3:=Bool.toNat_le (F 3);have h4:=Bool.toNat_le (F 4);have h5:=Bool.toNat_le (F 5);have h6:=Bool.toNat_le (F 6);omega
theorem Zlo (h:Zdm F=6)(hu:1<=u/\u<=6):F u=true:=by
 cases e:F u with
 | true=>rfl
 | false=>
  have:=Zfq hu e;have:=ZiX (fun v=>F v||v==u);omega
theorem Zlq :Zdm (fun _=>false)=0:=rfl
def ZcR (c:Nat->Int)(h:Nat->List Int):Nat->List WayD
 | 0=>[]
 | k+1=>ZcR c h k++(if 0<=c (k+1) then [⟨((k+1:Nat):Int),c (k+1),h (k+1)⟩] else [])
theorem ZgJ {d:Nat->Int}{g:Nat->List Int}(e:∀ v,(0<=c v->d v=c v/\g v=h v)/\(0<=d v->0<=c v)):∀ k,ZcR c h k=ZcR d g k
 | 0=>rfl
 | k+1=>by
  unfold ZcR;rw [ZgJ e k];congr 1;by_cases h0:0<=c (k+1)
  ·have:=(e (k+1)).1 h0;rw [if_pos h0,if_pos (by omega),this.1,this.2]
  ·rw [if_neg h0,if_neg (fun hc=>h0 ((e (k+1)).2 hc))]
theorem Fix.coll {d:Nat->Int}{g:Nat->List Int}(A:Fix L src c h)(B:Fix L src d g):ZcR c h 6=ZcR d g 6:=by
 refine ZgJ (fun v=>⟨fun h0=>⟨A.cost B v h0,A.hops B v h0⟩,fun h0=>?_⟩) 6;have:=B.cost A v h0;omega
def ZbS (xs:List RecD)(area src:Int)(ds:List WayD):Prop:=
 if (ZaN xs&&inB src 1 6&&ZkI xs area src)=true then ∃ c h,Fix (Zhx xs area) src.toNat c h/\ds=ZcR c h 6 else ds=[]
theorem ZbS.unique {xs:List RecD}{area src:Int}{ds es:List WayD}(h1:ZbS xs area src ds)(h2:ZbS xs area src es):ds=es:=by
 unfold ZbS at h1 h2
 split at h1
 ·rename_i e
  rw [if_pos e] at h2;obtain⟨c,h,A,rfl⟩:=h1;obtain⟨d,g,B,rfl⟩:=h2;exact A.coll B
 ·rename_i e
  rw [if_neg e] at h2;rw [h1,h2]
theorem Zel (c:Nat->Int)(h:Nat->List Int)(hv:1<=v):ZcR c h v=ZcR c h (v-1)++(if 0<=c v then [⟨(v:Int),c v,h v⟩] else []):=by
 obtain⟨k,rfl⟩:∃ k,v=k+1:=⟨v-1,by omega⟩;rfl
theorem ZjQ (c:Nat->Int)(h:Nat->List Int):∀ k,(ZcR c h k).length<=k
 | 0=>by simp [ZcR]
 | k+1=>by
  unfold ZcR;have:=ZjQ c h k;rw [YAM]
  split <;> simp <;> omega
theorem Zol {j:Nat}(hu:0<=c u):mixC L c u j u=c u:=by
 unfold mixC
 split
 ·exact Zde hu (Int.le_refl _)
 ·rfl
theorem Zec (h0:0<=c v)(hv:c v<=c u):ZbG L src c h u v=h v/\Zar L c u v=c v:=by
 by_cases hl:0<L u v
 ·exact Zeb h0 (by omega)
 ·exact Zga hl
theorem ZlV {j:Nat}(hu:0<=c u):mixH L src c h u j u=h u:=by
 unfold mixH
 split
 ·exact (Zec hu (Int.le_refl _)).1
 ·rfl
theorem Zix {B:Int}(h:∀ v,c v<=B)(hL:∀ u v,L u v<=1000):Zar L c u v<=B+1000:=by
 unfold Zar;have:=h v;have:=h u;have:=hL u v
 split <;> omega
def ZiN (F:Nat->Bool)(c:Nat->Int)(v a:Nat):Prop:=
 (a=0/\∀ x,1<=x->x<v->F x=false->c x<0)\/(1<=a/\a<v/\F a=false/\0<=c a/\∀ x,1<=x->x<v->F x=false->0<=c x->c a<=c x)
theorem ZeY {a:Nat}(h:ZiN F c v a)(hs:F v=true\/c v<0\/(1<=a/\c a<=c v)):ZiN F c (v+1) a:=by
 rcases h with ⟨h1,h2⟩ | ⟨h1,h2,h3,h4,h5⟩
 ·refine .inl ⟨h1,fun x hx1 hx2 hF=>?_⟩;by_cases e:x=v
  ·subst e;rcases hs with h | h | h
   ·rw [hF] at h;cases h
   ·exact h
   ·omega
  ·exact h2 x hx1 (by omega) hF
 ·refine .inr ⟨h1,by omega,h3,h4,fun x hx1 hx2 hF hc=>?_⟩;by_cases e:x=v
  ·subst e;rcases hs with h | h | h
   ·rw [hF] at h;cases h
   ·omega
   ·exact h.2
  ·exact h5 x hx1 (by omega) hF hc
theorem ZgS {a:Nat}(h:ZiN F c v a)(h1v:1<=v)(hF:F v=false)(hc:0<=c v)(hs:a=0\/c v<c a):ZiN F c (v+1) v:=by
 refine .inr ⟨h1v,by omega,hF,hc,fun x hx1 hx2 hFx hcx=>?_⟩;by_cases e:x=v
 ·subst e;omega
 ·rcases h with ⟨h1,h2⟩ | ⟨h1,h2,h3,h4,h5⟩
  ·have:=h2 x hx1 (by omega) hFx;omega
  ·have:=h5 x hx1 (by omega) hFx hcx;omega
structure AtRound (L:Nat->Nat->Int) (src:Nat) (F:Nat->Bool) (c:Nat->Int) (h:Nat->List Int) (r:Nat):Prop where
 inv:Inv L src F c h
 bnd:∀ v,c v<=1000*(Zdm F:Int)
 at':Zdm F+1=r\/(r=7/\∀ v,0<=c v->F v=true)
theorem AtRound.init (hs:ZcG src):AtRound L src (fun _=>false) (fun v=>if v=src then 0 else -1) (fun _=>[]) 1:=by
 refine⟨Inv.init hs,fun v=>?_,.inl rfl⟩;rw [Zlq];show (if v=src then (0:Int) else -1)<=_
 split <;> omega
theorem AtRound.fin (a:AtRound L src F c h 7):Fix L src c h/\∀ v,F v=true↔0<=c v:=by
 have hf:∀ v,0<=c v->F v=true:=by
  rcases a.at' with h1 | ⟨_,h1⟩
  ·intro v hv;exact Zlo (by omega) (a.inv.cnode v hv)
  ·exact h1
 exact⟨⟨F,a.inv,hf⟩,fun v=>⟨fun hv=>(a.inv.fnode v hv).2,hf v⟩⟩
theorem AtRound.none {r:Nat}(a:AtRound L src F c h r)(hm:ZiN F c 7 0):AtRound L src F c h 7:=by
 refine⟨a.inv,a.bnd,.inr ⟨rfl,fun v hv=>?_⟩⟩;have hn:=a.inv.cnode v hv;unfold ZcG at hn;cases e:F v with
 | true=>rfl
 | false=>
  rcases hm with ⟨_,h2⟩ | ⟨h1,_⟩
  ·have:=h2 v hn.1 (by omega) e;omega
  ·omega
theorem AtRound.next {r:Nat}(a:AtRound L src F c h r)(hL:Links L 1000)(hr:r<7)(hm:ZiN F c 7 u)(hu:1<=u):AtRound L src (fun v=>F v||v==u) (fun v=>Zar L c u v) (fun v=>ZbG L src c h u v) (r+1):=by
 rcases hm with ⟨h1,_⟩ | ⟨h1,h2,h3,h4,h5⟩
 ·omega
 ·have hcard:Zdm (fun v=>F v||v==u)=Zdm F+1:=Zfq ⟨h1,by omega⟩ h3;refine⟨a.inv.step hL h3 h4 (fun v hv hc=>?_) (fun v=>Zjn a.inv hL h4 v),fun v=>?_,.inl ?_⟩
  ·have hn:=a.inv.cnode v hc;unfold ZcG at hn;exact h5 v hn.1 (by omega) hv hc
  ·rw [hcard];have:=Zix (L:=L) (u:=u) (v:=v) a.bnd hL.le;omega
  ·rw [hcard];rcases a.at' with h6 | ⟨h6,_⟩
   ·omega
   ·omega
theorem ZhR (W:World)(lo:Nat)(hb:lo<=W.heap.size):WaysOwn (W.alloc (.cells #[] 144)) lo (W.alloc (.cells #[] 144)).heap.size (.slice (some ⟨W.heap.size,0,none⟩) 0 0) [] where
 row:=YAU W #[] 0 hb (by unfold maxLen;omega) (by simp)
 top:=by intro k hk;simp [Value.ownBlock] at hk;subst hk;simp
 nears:=by simp
 apart:=by simp
end Go.Proofs.YtdhnddfnckgbjaaGreat
namespace Go.Proofs.YtdhnddfnckgbjaaGreat

def cOf (bp:Nat->Option Nat)(wd:Nat->WayD)(v:Nat):Int:=match bp v with
 | some k=>(wd k).cost
 | none => -1

def hOf (bp:Nat->Option Nat)(wd:Nat->WayD)(v:Nat):List Int:=match bp v with
 | some k=>(wd k).hops
 | none=>[]

theorem ZjO {bp:Nat->Option Nat}{wd:Nat->WayD}{v k:Nat}(h:bp v=some k):cOf bp wd v=(wd k).cost:=by unfold cOf;rw [h]

theorem ZjW {bp:Nat->Option Nat}{wd:Nat->WayD}{v k:Nat}(h:bp v=some k):hOf bp wd v=(wd k).hops:=by unfold hOf;rw [h]

structure GI (F:Nat->Bool) (c:Nat->Int) (h:Nat->List Int) (n:Nat) (q:Nat->Nat) (bp:Nat->Option Nat) (wd:Nat->WayD):Prop where
 cc:∀ v,cOf bp wd v=c v
 hh:∀ v,hOf bp wd v=h v
 to:∀ v k,bp v=some k->(wd k).to=(v:Int)
 ent:∀ i,i<n->∃ v kb:Nat,(wd (q i)).to=(v:Int)/\bp v=some kb/\((q i=kb/\F v=false)\/(wd kb).cost<(wd (q i)).cost)
 live:∀ v k,bp v=some k->F v=false->∃ i,i<n/\q i=k
 inj:∀ i j,i<n->j<n->q i=q j->i=j
 nn:∀ v k,bp v=some k->0<=(wd k).cost

theorem GI.push {F:Nat->Bool}{c:Nat->Int}{h:Nat->List Int}{n:Nat}{q q':Nat->Nat}{bp:Nat->Option Nat}{wd:Nat->WayD}(g:GI F c h n q bp wd){t k:Nat}{x:WayD}(hF:F t=false)(hx:x.to=(t:Int))(hc:c t<0\/x.cost<c t)
  (hk1:∀ i,i<n->q i≠k) (hk2:∀ v,bp v≠some k) (hs:Shuf (fun y=>if y=n then k else q y) q' (n+1)) (hx0:0<=x.cost):GI F (upd c t x.cost) (upd h t x.hops) (n+1) q' (upd bp t (some k)) (upd wd k x):=by
 have wk:∀ i,i<n->upd wd k x (q i)=wd (q i):=fun i hi=>Za8 _ _ (hk1 i hi);have wb:∀ v k',bp v=some k'->upd wd k x k'=wd k':=fun v k' e=>Za8 _ _ (fun e2=>hk2 v (by rw [e,e2]));have hin:∀ i,i<n+1->q' i=k\/∃ j,j<n/\q' i=q j:=by
  intro i hi;obtain⟨j,hj,e⟩:=hs.into i hi;by_cases e2:j=n
  ·left;rw [e];exact if_pos e2
  ·right;refine⟨j,by omega,?_⟩;rw [e];exact if_neg e2
 refine⟨fun v=>?_,fun v=>?_,fun v k' e=>?_,fun i hi=>?_,fun v k' e hFv=>?_,?_,fun v k' e=>?_⟩
 ·by_cases e:v=t
  ·subst e;rw [ZjO (k:=k) (ZaT _ _ _),ZaT,ZaT]
  ·rw [Za8 _ _ e, <-g.cc v];unfold cOf;rw [Za8 _ _ e];cases e2:bp v with
   | none=>rfl
   | some k'=>show (upd wd k x k').cost=(wd k').cost;rw [wb v k' e2]
 ·by_cases e:v=t
  ·subst e;rw [ZjW (k:=k) (ZaT _ _ _),ZaT,ZaT]
  ·rw [Za8 _ _ e, <-g.hh v];unfold hOf;rw [Za8 _ _ e];cases e2:bp v with
   | none=>rfl
   | some k'=>show (upd wd k x k').hops=(wd k').hops;rw [wb v k' e2]
 ·by_cases e2:v=t
  ·subst e2;rw [ZaT] at e;cases e;rw [ZaT];exact hx
  ·rw [Za8 _ _ e2] at e;rw [wb v k' e];exact g.to v k' e
 ·rcases hin i hi with e | ⟨j,hj,e⟩
  ·refine ⟨t,k,?_,ZaT _ _ _,.inl ⟨e,hF⟩⟩;rw [e,ZaT];exact hx
  ·obtain ⟨v,kb,h1,h2,h3⟩:=g.ent j hj;rw [e,wk j hj];by_cases ev:v=t
   ·subst ev;refine⟨v,k,h1,ZaT _ _ _,.inr ?_⟩;rw [ZaT];have hcv:=g.cc v;rw [ZjO h2] at hcv;have h0:=g.nn v kb h2;rcases h3 with ⟨h4,_⟩ | h4
    ·rw [h4];omega
    ·omega
   ·refine ⟨v,kb,h1,by rw [Za8 _ _ ev];exact h2,?_⟩;rw [wb v kb h2];exact h3
 ·by_cases e2:v=t
  ·subst e2;rw [ZaT] at e;cases e;obtain⟨i,hi,e3⟩:=hs.onto n (by omega);exact⟨i,hi,by rw [e3];exact if_pos rfl⟩
  ·rw [Za8 _ _ e2] at e;obtain⟨j,hj,e3⟩:=g.live v k' e hFv;obtain⟨i,hi,e4⟩:=hs.onto j (by omega);refine⟨i,hi,?_⟩;rw [e4, <-e3];exact if_neg (by omega)
 ·refine hs.inj (fun i j hi hj e=>?_);by_cases ei:i=n <;> by_cases ej:j=n
  ·omega
  ·have e2:k=q j:=by simpa [ei,ej] using e
   exact absurd e2.symm (hk1 j (by omega))
  ·have e2:q i=k:=by simpa [ei,ej] using e
   exact absurd e2 (hk1 i (by omega))
  ·have e2:q i=q j:=by simpa [ei,ej] using e
   exact g.inj i j (by omega) (by omega) e2
 ·by_cases e2:v=t
  ·subst e2;rw [ZaT] at e;cases e;rw [ZaT];exact hx0
  ·rw [Za8 _ _ e2] at e;rw [wb v k' e];exact g.nn v k' e

theorem GI.join {F:Nat->Bool}{c:Nat->Int}{h:Nat->List Int}{n:Nat}{q:Nat->Nat}{bp:Nat->Option Nat}{wd:Nat->WayD}(g:GI F c h n q bp wd){t k:Nat}{y:WayD}(hb:bp t=some k)(hc:y.cost=(wd k).cost)(ht:y.to=(wd k).to):GI F c (upd h t y.hops) n q bp (upd wd k y):=by
 have hcost:∀ k',(upd wd k y k').cost=(wd k').cost:=by
  intro k';by_cases e:k'=k
  ·rw [e,ZaT];exact hc
  ·rw [Za8 _ _ e]
 have hto:∀ k',(upd wd k y k').to=(wd k').to:=by
  intro k';by_cases e:k'=k
  ·rw [e,ZaT];exact ht
  ·rw [Za8 _ _ e]
 refine⟨fun v=>?_,fun v=>?_,fun v k' e=>?_,fun i hi=>?_,g.live,g.inj,fun v k' e=>by rw [hcost];exact g.nn v k' e⟩
 ·rw [<-g.cc v];unfold cOf;cases bp v with
  | none=>rfl
  | some k'=>exact hcost k'
 ·by_cases e:v=t
  ·subst e;rw [ZjW hb,ZaT,ZaT]
  ·rw [Za8 _ _ e, <-g.hh v];unfold hOf;cases e2:bp v with
   | none=>rfl
   | some k'=>
    show (upd wd k y k').hops=(wd k').hops;rw [Za8];intro e3;subst e3;have h1:=g.to v k' e2;have h2:=g.to t k' hb;omega
 ·rw [hto];exact g.to v k' e
 ·obtain ⟨v,kb,h1,h2,h3⟩:=g.ent i hi;refine⟨v,kb,by rw [hto];exact h1,h2,?_⟩;rw [hcost,hcost];exact h3

theorem ZmJ {l a b:List Int}(hl:l.Pairwise (· < ·))(hm:∀ x,x∈l↔(x∈a\/x∈b))(hr:∀ x,x∈l->1<=x/\x<=6):l=addL a b:=by
 refine Zhj hl (Zfn a b) (fun x=>?_);rw [Zfp];constructor
 ·intro hx;have:=hr x hx;exact⟨this.1,this.2,(hm x).1 hx⟩
 ·rintro ⟨_,_,h3⟩;exact (hm x).2 h3

end Go.Proofs.YtdhnddfnckgbjaaGreat
namespace Go.Proofs.YtdhnddfnckgbjaaGreat
open Go.RowKit
set_option linter.unusedSimpArgs false
set_option linter.unusedVariables false
set_option maxRecDepth 100000
set_option maxHeartbeats 8000000
variable {cap len p z:Nat}{a:Option Addr}{w w5 wr:World}
theorem Zng {x:NetD}(h:ZaZ x=true):1<=x.n/\x.n<=6:=by
 simp [ZaZ,inB] at h;omega
theorem Znf {x:NetD}(h:ZaZ x=true):x.ls.length<=12/\x.ts.length<=4:=by
 simp [ZaZ,Zfe,Zdh] at h;omega
structure DSt (w w5 wr:World) (p z:Nat) (a:Option Addr) (len cap:Nat):Prop where
 cur:Cur wr p a len cap
 bel:Below w.heap.size w wr
 kept:∀ b,b<z+1->b≠p->wr.heap[b]? = w5.heap[b]?
 size:z+1<=wr.heap.size
theorem DSt.grown {w':World}(h:DSt w w5 wr p z a len cap)(hc:Cur w' p a len cap)(hg:wr.grownBy w' (some p))(hp:w.heap.size<=p):DSt w w5 w' p z a len cap where
 cur:=hc
 bel:=h.bel.grown hg h.bel.size (fun k hk=>by simp at hk;omega)
 kept:=fun b hb hbp=>by rw [hg.block b (by have:=h.size;omega) (by simp;exact hbp)];exact h.kept b hb hbp
 size:=YAG h.size hg.size
theorem DSt.alloc (h:DSt w w5 wr p z a len cap)(o:Obj):DSt w w5 (wr.alloc o) p z a len cap where
 cur:=Zlx h.cur o
 bel:=h.bel.alloc h.bel.size o
 kept:=fun b hb hbp=>by rw [YAI _ _ _ (by have:=h.size;omega)];exact h.kept b hb hbp
 size:=by have:=h.size;simp;omega
theorem DSt.appended {w':World}{v:Value}{e:TypeId}{n:Nat}{xs:List Value}(o:Obj)(h:DSt w w5 wr p z a len cap)(hown:wr.ownsRow (z+1) e 1 v n xs)(hp:p<z)(hw:w.heap.size<=z)(hg:(wr.alloc o).grownBy w' v.ownBlock):DSt w w5 w' p z a len cap:=
 have h1:=h.alloc o
 {cur:=h.cur.appended o hown (by omega) hg
  bel:=h1.bel.grown hg h1.bel.size (fun k hk=>by have:=(hown.lt k hk).1;omega)
  kept:=fun b hb hbp=>by
   rw [hg.block b (by have:=h1.size;omega) (fun he=>by have:=(hown.lt b he.symm).1;omega)];exact h1.kept b hb hbp
  size:=YAG h1.size hg.size }
theorem Zcr (w:World):∀ k:Nat,k<4->(w.alloc (.cells #[.int .i64 0,.int .i64 0,.int .i64 1,.int .i64 2] 3)).cell? ⟨w.heap.size,k,none⟩=some (.int .i64 (Zf5 k)):=by
 intro k hk;have h:=Zaa (YAE w (.cells #[.int .i64 0,.int .i64 0,.int .i64 1,.int .i64 2] 3)) k
 match k,hk with
 | 0,_=>exact h
 | 1,_=>exact h
 | 2,_=>exact h
 | 3,_=>exact h
theorem Zom (p:Nat)(a:Option Addr)(len cap:Nat)(σ:Nat->Int)(t:Nat)(w:World)(hc:CurT w p a len cap σ t):
  Calls Tryz.prog 42 #[.pointer (some ⟨p,0,none⟩)] w fun e w'=>∃ (x:NetD) (v1 v2:Value) (u:Nat),e=.returned (.agg #[.int .i64 x.n,v1,v2])/\Hid (netF σ t=(x,u))/\ZaZ x=true/\w'.ownsRow w.heap.size 99 4 v1 x.ls.length (flat lkE x.ls)/\w'.ownsRow w.heap.size 103 4 v2 x.ts.length (flat thE x.ts)/\CurT w' p a len cap σ u/\Below p w w'/\w.grownBy w' (some p):=by
 have hp:=hc.lt;have HC:=hide hc;clear hc
 go_enter Tryz.func42,Tryz.ntmps42
 go_wp2_with fail
 refine (Za5 p a len cap σ t 4 _ (HC.out.alloc _) (by omega) (by omega)).mono ?_;rintro e w1 ⟨y0,rfl,hy0,hy1,HY0,hc1,hg1⟩;have hsz1:w.heap.size<w1.heap.size:=by have:=hg1.size;simp at this;omega
 have st0:NetSd w (w1.alloc (.cells #[.int .i64 (2+y0),.slice none 0 0,.slice none 0 0] 81)) p w.heap.size w1.heap.size a len cap σ (t+1) (2+y0) (.slice none 0 0) (.slice none 0 0) [] []:=
  {cur:=hc1.alloc _
   bel:=(((YAB p w).alloc (by omega) _).grown hg1 (by simp;omega) (fun k hk=>by simp at hk;omega)).alloc (by omega) _
   new:=YA _
   gro:=Zaq (Zaq (World.grownBy_alloc w _ _) hg1) (World.grownBy_alloc w1 _ _)
   box:=YAE w1 _
   res:=by
    rw [YAI _ _ _ hsz1,hg1.block _ (by simp) (by simp;omega)];exact YAE w _
   o1:=⟨by simp [flat],.inl ⟨rfl,rfl⟩⟩
   o2:=⟨by simp [flat],.inl ⟨rfl,rfl⟩⟩ }
 have ST0:=hide st0;clear hc1 hg1 st0 HC;obtain⟨R0,hR0⟩:∃ R0,lnkF σ (2+y0) 8 0 (t+1) []=R0:=⟨_,rfl⟩;have HR0:=hide hR0;clear hR0;go_wp2
 go_loopw [4] (fun i wr=>∃ (k u:Nat) (v1:Value) (ls:List Lk),k<=7/\i=.int .i64 k/\Hid (lnkF σ (2+y0) (8-k) k u ls=R0)/\NetSd w wr p w.heap.size w1.heap.size a len cap σ u (2+y0) v1 (.slice none 0 0) ls []/\ZjE (2+y0) ls/\ls.length<=12) (fun i _=>8-(intOf i).toNat)
 case atStart=>exact ⟨0,t+1,_,[],by omega,rfl,HR0,ST0.out,⟨fun x hx=>by simp at hx,List.Pairwise.nil⟩,by simp⟩
 case round=>
  clear ST0;obtain⟨k,u,v1,ls,hk,rfl,HLF,st,hr,hll⟩:=hrel;obtain⟨b1,c1,rfl⟩:=ZaX.shape (Zan st.o1);have g0:=Zaa st.box 0;simp at g0;have STD:=hide st.drew;have HR:=hide hr;clear hr st;go_wp2
  go_region_held3 (fun W=>W.cell? ⟨w1.heap.size,0,none⟩=some (.int .i64 (2+y0))) (first | go_keep | exact hg2.cell (by assumption) (by simp;omega)) (first | (go_at_call 44;refine (Za5 p a len cap σ u 3 _ STD.out.cur ?_ ?_).mono ?_;omega;omega;rintro e w2 ⟨y,rfl,hy2,hy3,HY,hc2,hg2⟩))
  have st2:=STD.out.grown hc2 hg2 hp hsz1;have ST2:=hide st2;have s0:=Zaa st2.box 0;simp at s0;clear hc2 hg2 st2 STD g0;rw [show IntKind.i64.wrap (2+y0+y)=2+y0+y from ZbF _ (by omega) (by omega)];by_cases hcond:(k:Int)<2+y0+y
  case neg=>
   have wo:World:=wr;have HRE:=hide (Zoj HLF hk HY hcond);obtain⟨R1,hR1⟩:∃ R1,thgF σ (2+y0) 3 0 (u+1) []=R1:=⟨_,rfl⟩;have HR1:=hide hR1;clear hR1;go_wp2;clear hcond hk
   go_loopw [8] (fun i wr=>∃ (k z:Nat) (v2:Value) (ts:List Th),k<=2/\i=.int .i64 k/\Hid (thgF σ (2+y0) (3-k) k z ts=R1)/\NetSd w wr p w.heap.size w1.heap.size a len cap σ z (2+y0) (.slice b1 ls.length c1) v2 ls ts/\ZjF (2+y0) ts/\ts.length<=k) (fun i _=>3-(intOf i).toNat)
   case atStart=>exact ⟨0,u+1,_,[],by omega,rfl,HR1,ST2.out,⟨fun x hx=>by simp at hx,List.Pairwise.nil⟩,by simp⟩
   case round=>
    clear ST2 s0;obtain⟨k,z,v2,ts,hk,rfl,HTF,st,hrt,htl⟩:=hrel;obtain⟨b2,c2,rfl⟩:=Zbq.shape (Zan st.o2);have ST:=hide st;have HRT:=hide hrt;clear st hrt
    go_wp2_with fail
    refine (Za5 p a len cap σ z 3 _ ST.out.cur (by omega) (by omega)).mono ?_;rintro e w3 ⟨y3,rfl,hy30,hy31,HY3,hc3,hg3⟩;have st3:=ST.out.grown hc3 hg3 hp hsz1;clear hc3 hg3 ST;have e0:=st3.c0;have e1:=st3.c1;have e2:=st3.c2;by_cases hcond:(k:Int)<y3
    ·have hk1:k<=1:=by omega
     have st4:=st3.drew;have d0:=st4.c0;have d2:=st4.c2;clear st3 e0 e1 e2;go_wp2
     go_region_with (first | (go_at_call 44;refine (Za5 p a len cap σ _ _ _ (show NetSd w _ p w.heap.size w1.heap.size a len cap σ _ (2+y0) (.slice b1 ls.length c1) (.slice b2 ts.length c2) ls ts from by assumption).cur ?_ ?_).mono ?_;omega;omega;rintro e wx ⟨yy,rfl,hh0,hh1,HYY,hcc,hgg⟩;have hwr:IntKind.i64.wrap (1+yy)=1+yy:=ZbF _ (by omega) (by omega);have stx:=(show NetSd w _ p w.heap.size w1.heap.size a len cap σ _ (2+y0) (.slice b1 ls.length c1) (.slice b2 ts.length c2) ls ts from by assumption).grown hcc hgg hp hsz1;have ex0:=stx.c0;have ex2:=stx.c2;clear hcc hgg) | (go_at_call 30;refine (Zfy p a len cap σ _ _ _ (show NetSd w _ p w.heap.size w1.heap.size a len cap σ _ (2+y0) (.slice b1 ls.length c1) (.slice b2 ts.length c2) ls ts from by assumption).cur ?_ ?_).mono ?_;omega;omega;rintro e wx ⟨ff,rfl,HFF,hcc,hgg⟩;have stx:=(show NetSd w _ p w.heap.size w1.heap.size a len cap σ _ (2+y0) (.slice b1 ls.length c1) (.slice b2 ts.length c2) ls ts from by assumption).grown hcc hgg hp hsz1;have ex0:=stx.c0;have ex2:=stx.c2;clear hcc hgg) | (go_at_call 57;refine (Znv _ ts ⟨_,_,_,_⟩ _ ?_ (Zan (show NetSd w _ p w.heap.size w1.heap.size a len cap σ _ (2+y0) (.slice b1 ls.length c1) (.slice b2 ts.length c2) ls ts from by assumption).o2)).mono ?_;omega;rintro e wy ⟨vv,rfl,oy,hby⟩;obtain⟨b3,c3,rfl⟩:=Zbq.shape (Zan oy);have st8:=(show NetSd w _ p w.heap.size w1.heap.size a len cap σ _ (2+y0) (.slice b1 ls.length c1) (.slice b2 ts.length c2) ls ts from by assumption).below hby;have st9:=(show NetSd w _ p w.heap.size w1.heap.size a len cap σ _ (2+y0) (.slice b1 ls.length c1) (.slice b2 ts.length c2) ls ts from by assumption).put2 hby oy hp hsz1;have ex2:=st8.c2;have fx2:=Zae st8.box 2;clear oy hby st8))
     all_goals go_wp2
     all_goals exact ⟨⟨k+1,_,_,_,by omega,by go_num,ZnO HTF hk1 HY3 hcond (by assumption) (by assumption) (by assumption) (by assumption),st9,ZkP HRT.out (ZoE ⟨by omega,by omega⟩ ⟨by omega,by omega⟩ ⟨by omega,by omega⟩),YAG (Znw ts _) (by omega)⟩,by simp [intOf];omega⟩
    ·have r0:=Zaa st3.res 0;have r1:=Zaa st3.res 1;have r2:=Zaa st3.res 2;have f0:=Zae st3.res 0;have f1:=Zae st3.res 1;have f2:=Zae st3.res 2;simp at r0 r1 r2;go_wp2;have hfin:(((w3.setCell ⟨w.heap.size,0,none⟩ (.int .i64 (2+y0))).setCell ⟨w.heap.size,1,none⟩ (.slice b1 ls.length c1)).setCell ⟨w.heap.size,2,none⟩ (.slice b2 ts.length c2)).heap[w.heap.size]? = some (.cells #[.int .i64 (2+y0),.slice b1 ls.length c1,.slice b2 ts.length c2] 81):=by
      have k1:=YAS _ _ 0 _ _ (.int .i64 (2+y0)) st3.res;have k2:=YAS _ _ 1 _ _ (.slice b1 ls.length c1) k1;have k3:=YAS _ _ 2 _ _ (.slice b2 ts.length c2) k2;exact k3
     try simp only [Exit.inBlock,Exit.then]
     refine bodyPost_ret (results_cell_row rfl _ _ w.heap.size 81 #[.int .i64 (2+y0),.slice b1 ls.length c1,.slice b2 ts.length c2] (0,0) _ rfl hfin Tryz.underlying81 rfl (by kernel_rfl)) rfl ?_;have HTE:=hide (ZoF HTF hk HY3 (by omega));refine⟨⟨2+y0,ls,ts⟩,_,_,z+1,rfl,hide ?_,?_,?_,?_,?_,?_,?_⟩
     ·unfold netF;simp only [];rw [<-HY0.out,HR0.out,HRE.out];simp only [];rw [HR1.out,HTE.out]
     ·unfold ZaZ;simp only [];rw [Zeu (by omega) (by omega),ZlS HR.out hll,Zk4 HRT.out (by omega)];rfl
     ·exact Zaf (ZaH (ZaH (ZaH st3.o1 (by omega)) (by omega)) (by omega)) (by omega)
     ·exact Zaf (ZaH (ZaH (ZaH st3.o2 (by omega)) (by omega)) (by omega)) (by omega)
     ·exact ((st3.cur.grown (Zaj _ _ _ _) (fun b hb=>by simp;omega)).grown (Zaj _ _ _ _) (fun b hb=>by simp;omega)).grown (Zaj _ _ _ _) (fun b hb=>by simp;omega)
     ·exact ((st3.bel.setCell (by show p<=w.heap.size;omega) _).setCell (by show p<=w.heap.size;omega) _).setCell (by show p<=w.heap.size;omega) _
     ·refine ⟨st3.gro.os,st3.gro.tape,st3.gro.output,by have:=st3.gro.size;simpa using this,fun b hb hne=>?_⟩;rw [YAQ _ ⟨w.heap.size,2,none⟩ _ _ (by show b≠w.heap.size;omega),YAQ _ ⟨w.heap.size,1,none⟩ _ _ (by show b≠w.heap.size;omega),YAQ _ ⟨w.heap.size,0,none⟩ _ _ (by show b≠w.heap.size;omega)];exact st3.gro.block b hb hne
  have hk6:k<=6:=by omega
  go_wp2_with fail
  refine (Za5 p a len cap σ (u+1) (2+y0) _ ST2.out.cur (by omega) (by omega)).mono ?_;rintro e w3 ⟨x,rfl,hx0,hx1,HX,hc3,hg3⟩;have st3:=ST2.out.grown hc3 hg3 hp hsz1;have ST3:=hide st3;have s0:=Zaa st3.box 0;simp at s0;clear hc3 hg3 st3 ST2
  go_wp2_with fail
  refine (Za5 p a len cap σ (u+1+1) (2+y0) _ ST3.out.cur (by omega) (by omega)).mono ?_;rintro e w4 ⟨x2,rfl,hx2,hx3,HX2,hc4,hg4⟩;have st4:=ST3.out.grown hc4 hg4 hp hsz1;have ST4:=hide st4;have s0:=Zaa st4.box 0;have s1:=Zaa st4.box 1;simp at s0 s1;clear hc4 hg4 st4 ST3;obtain⟨m,hm⟩:∃ m,(1+x).tmod (2+y0)=m:=⟨_,rfl⟩;have hm1:(1+x<2+y0/\m=1+x)\/(1+x=2+y0/\m=0):=by
   rw [<-hm,Int.tmod_eq_emod_of_nonneg (by omega)];by_cases h:1+x<2+y0
   ·exact .inl ⟨h,Int.emod_eq_of_lt (by omega) h⟩
   ·have e:1+x=2+y0:=by omega
    exact .inr ⟨e,by rw [e];exact Int.emod_self⟩
  have hy00:¬(2+y0=0):=by omega
  go_wp2_with fail
  ·have hab:1<=(k:Int)+1/\(k:Int)+1<(k:Int)+2/\(k:Int)+2<=2+y0:=by
    clear ST4 s0 s1 HR
    (try simp only [beq_eq_false_iff_ne,ne_eq,beq_iff_eq] at *)
    omega
   have HEN:=hide (show ZeL (2+y0) k x x2=((k:Int)+1,(k:Int)+2) by
    clear ST4 s0 s1 HR
    (try simp only [beq_eq_false_iff_ne,ne_eq,beq_iff_eq] at *)
    unfold ZeL;simp only [hm]
    split <;> (try split) <;> (try split) <;> first | (exfalso;omega) | rfl | (simp only [Prod.mk.injEq];omega))
   refine (Za5 p a len cap σ (u+1+1+1) 4 _ ST4.out.cur (by omega) (by omega)).mono ?_;rintro e w5 ⟨c,rfl,hc0,hc9,HCC,hc5,hg5⟩;have st5:=ST4.out.grown hc5 hg5 hp hsz1;have ST5:=hide st5;have hp5:=st5.cur.lt;clear hc5 hg5 st5 ST4 s0 s1
   go_wp2_with fail
   refine (ZeD p a len cap σ (u+1+1+1+1) w5.heap.size _ (ST5.out.cur.alloc _) (by omega) (Zcr w5)).mono ?_;rintro e w6 ⟨r,rfl,⟨hr0,hr1⟩,HRR,hc6,hg6⟩;have st6:=(ST5.out.alloc _).grown hc6 hg6 hp hsz1;have ST6:=hide st6;have s1:=Zaa st6.box 1;have hbx:=Zab st6.box;simp at s1;clear hc6 hg6 st6 ST5;by_cases h12:(ls.length:Int)<12
   ·go_wp2_with fail
    refine (ZeE _ ls ⟨(k:Int)+1,(k:Int)+2,1+c,r⟩ _ (by omega) (Zan (ST6.out.alloc _).o1)).mono ?_;rintro e w7 ⟨v',rfl,o7,b7⟩;obtain⟨b2,c2,rfl⟩:=ZaX.shape (Zan o7);have st7:=(ST6.out.alloc _).put1 b7 o7 hp hsz1;have t1:=Zaa ((ST6.out.alloc (.cells #[.int .i64 ((k:Int)+1),.int .i64 ((k:Int)+2),.int .i64 (1+c),.int .i64 r] 99)).below b7).box 1;have f1:=Zae ((ST6.out.alloc (.cells #[.int .i64 ((k:Int)+1),.int .i64 ((k:Int)+2),.int .i64 (1+c),.int .i64 r] 99)).below b7).box 1;simp at t1;have ST7:=hide st7;have hr7:=ZcW HR.out (ZdA (n:=2+y0) (c:=1+c) (r:=r) ⟨by omega,by omega⟩ hab.1 hab.2.1 hab.2.2 ⟨by omega,by omega⟩ ⟨hr0,hr1⟩);have HR7:=hide hr7;have hl7:=ZeG ls ⟨(k:Int)+1,(k:Int)+2,1+c,r⟩;have HL7:=hide hl7;clear o7 b7 st7 hr7 hl7 ST6;go_wp2;exact⟨⟨k+1,_,_,Zd9 ls ⟨(k:Int)+1,(k:Int)+2,1+c,r⟩,by omega,by go_num,Zex HLF hk6 HY hcond HX HX2 HEN HCC HRR h12,ST7.out,HR7.out,by have:=HL7.out;omega⟩,by simp [intOf];omega⟩
   ·go_wp2;exact⟨⟨k+1,_,_,ls,by omega,by go_num,Zew HLF hk6 HY hcond (by omega),ST6.out.alloc _,HR.out,hll⟩,by simp [intOf];omega⟩
  ·have hab:1<=m+1/\m+1<1+x/\1+x<=2+y0:=by
    clear ST4 s0 s1 HR
    (try simp only [beq_eq_false_iff_ne,ne_eq,beq_iff_eq] at *)
    omega
   have HEN:=hide (show ZeL (2+y0) k x x2=(m+1,1+x) by
    clear ST4 s0 s1 HR
    (try simp only [beq_eq_false_iff_ne,ne_eq,beq_iff_eq] at *)
    unfold ZeL;simp only [hm]
    split <;> (try split) <;> (try split) <;> first | (exfalso;omega) | rfl | (simp only [Prod.mk.injEq];omega))
   refine (Za5 p a len cap σ (u+1+1+1) 4 _ ST4.out.cur (by omega) (by omega)).mono ?_;rintro e w5 ⟨c,rfl,hc0,hc9,HCC,hc5,hg5⟩;have st5:=ST4.out.grown hc5 hg5 hp hsz1;have ST5:=hide st5;have hp5:=st5.cur.lt;clear hc5 hg5 st5 ST4 s0 s1
   go_wp2_with fail
   refine (ZeD p a len cap σ (u+1+1+1+1) w5.heap.size _ (ST5.out.cur.alloc _) (by omega) (Zcr w5)).mono ?_;rintro e w6 ⟨r,rfl,⟨hr0,hr1⟩,HRR,hc6,hg6⟩;have st6:=(ST5.out.alloc _).grown hc6 hg6 hp hsz1;have ST6:=hide st6;have s1:=Zaa st6.box 1;have hbx:=Zab st6.box;simp at s1;clear hc6 hg6 st6 ST5;by_cases h12:(ls.length:Int)<12
   ·go_wp2_with fail
    refine (ZeE _ ls ⟨m+1,1+x,1+c,r⟩ _ (by omega) (Zan (ST6.out.alloc _).o1)).mono ?_;rintro e w7 ⟨v',rfl,o7,b7⟩;obtain⟨b2,c2,rfl⟩:=ZaX.shape (Zan o7);have st7:=(ST6.out.alloc _).put1 b7 o7 hp hsz1;have t1:=Zaa ((ST6.out.alloc (.cells #[.int .i64 (m+1),.int .i64 (1+x),.int .i64 (1+c),.int .i64 r] 99)).below b7).box 1;have f1:=Zae ((ST6.out.alloc (.cells #[.int .i64 (m+1),.int .i64 (1+x),.int .i64 (1+c),.int .i64 r] 99)).below b7).box 1;simp at t1;have ST7:=hide st7;have hr7:=ZcW HR.out (ZdA (n:=2+y0) (c:=1+c) (r:=r) ⟨by omega,by omega⟩ hab.1 hab.2.1 hab.2.2 ⟨by omega,by omega⟩ ⟨hr0,hr1⟩);have HR7:=hide hr7;have hl7:=ZeG ls ⟨m+1,1+x,1+c,r⟩;have HL7:=hide hl7;clear o7 b7 st7 hr7 hl7 ST6;go_wp2;exact⟨⟨k+1,_,_,Zd9 ls ⟨m+1,1+x,1+c,r⟩,by omega,by go_num,Zex HLF hk6 HY hcond HX HX2 HEN HCC HRR h12,ST7.out,HR7.out,by have:=HL7.out;omega⟩,by simp [intOf];omega⟩
   ·go_wp2;exact⟨⟨k+1,_,_,ls,by omega,by go_num,Zew HLF hk6 HY hcond (by omega),ST6.out.alloc _,HR.out,hll⟩,by simp [intOf];omega⟩
  ·have hab:1<=1+x/\1+x<m+1/\m+1<=2+y0:=by
    clear ST4 s0 s1 HR
    (try simp only [beq_eq_false_iff_ne,ne_eq,beq_iff_eq] at *)
    omega
   have HEN:=hide (show ZeL (2+y0) k x x2=(1+x,m+1) by
    clear ST4 s0 s1 HR
    (try simp only [beq_eq_false_iff_ne,ne_eq,beq_iff_eq] at *)
    unfold ZeL;simp only [hm]
    split <;> (try split) <;> (try split) <;> first | (exfalso;omega) | rfl | (simp only [Prod.mk.injEq];omega))
   refine (Za5 p a len cap σ (u+1+1+1) 4 _ ST4.out.cur (by omega) (by omega)).mono ?_;rintro e w5 ⟨c,rfl,hc0,hc9,HCC,hc5,hg5⟩;have st5:=ST4.out.grown hc5 hg5 hp hsz1;have ST5:=hide st5;have hp5:=st5.cur.lt;clear hc5 hg5 st5 ST4 s0 s1
   go_wp2_with fail
   refine (ZeD p a len cap σ (u+1+1+1+1) w5.heap.size _ (ST5.out.cur.alloc _) (by omega) (Zcr w5)).mono ?_;rintro e w6 ⟨r,rfl,⟨hr0,hr1⟩,HRR,hc6,hg6⟩;have st6:=(ST5.out.alloc _).grown hc6 hg6 hp hsz1;have ST6:=hide st6;have s1:=Zaa st6.box 1;have hbx:=Zab st6.box;simp at s1;clear hc6 hg6 st6 ST5;by_cases h12:(ls.length:Int)<12
   ·go_wp2_with fail
    refine (ZeE _ ls ⟨1+x,m+1,1+c,r⟩ _ (by omega) (Zan (ST6.out.alloc _).o1)).mono ?_;rintro e w7 ⟨v',rfl,o7,b7⟩;obtain⟨b2,c2,rfl⟩:=ZaX.shape (Zan o7);have st7:=(ST6.out.alloc _).put1 b7 o7 hp hsz1;have t1:=Zaa ((ST6.out.alloc (.cells #[.int .i64 (1+x),.int .i64 (m+1),.int .i64 (1+c),.int .i64 r] 99)).below b7).box 1;have f1:=Zae ((ST6.out.alloc (.cells #[.int .i64 (1+x),.int .i64 (m+1),.int .i64 (1+c),.int .i64 r] 99)).below b7).box 1;simp at t1;have ST7:=hide st7;have hr7:=ZcW HR.out (ZdA (n:=2+y0) (c:=1+c) (r:=r) ⟨by omega,by omega⟩ hab.1 hab.2.1 hab.2.2 ⟨by omega,by omega⟩ ⟨hr0,hr1⟩);have HR7:=hide hr7;have hl7:=ZeG ls ⟨1+x,m+1,1+c,r⟩;have HL7:=hide hl7;clear o7 b7 st7 hr7 hl7 ST6;go_wp2;exact⟨⟨k+1,_,_,Zd9 ls ⟨1+x,m+1,1+c,r⟩,by omega,by go_num,Zex HLF hk6 HY hcond HX HX2 HEN HCC HRR h12,ST7.out,HR7.out,by have:=HL7.out;omega⟩,by simp [intOf];omega⟩
   ·go_wp2;exact⟨⟨k+1,_,_,ls,by omega,by go_num,Zew HLF hk6 HY hcond (by omega),ST6.out.alloc _,HR.out,hll⟩,by simp [intOf];omega⟩
  ·have hab:1<=1+x2/\1+x2<1+x/\1+x<=2+y0:=by
    clear ST4 s0 s1 HR
    (try simp only [beq_eq_false_iff_ne,ne_eq,beq_iff_eq] at *)
    omega
   have HEN:=hide (show ZeL (2+y0) k x x2=(1+x2,1+x) by
    clear ST4 s0 s1 HR
    (try simp only [beq_eq_false_iff_ne,ne_eq,beq_iff_eq] at *)
    unfold ZeL;simp only [hm]
    split <;> (try split) <;> (try split) <;> first | (exfalso;omega) | rfl | (simp only [Prod.mk.injEq];omega))
   refine (Za5 p a len cap σ (u+1+1+1) 4 _ ST4.out.cur (by omega) (by omega)).mono ?_;rintro e w5 ⟨c,rfl,hc0,hc9,HCC,hc5,hg5⟩;have st5:=ST4.out.grown hc5 hg5 hp hsz1;have ST5:=hide st5;have hp5:=st5.cur.lt;clear hc5 hg5 st5 ST4 s0 s1
   go_wp2_with fail
   refine (ZeD p a len cap σ (u+1+1+1+1) w5.heap.size _ (ST5.out.cur.alloc _) (by omega) (Zcr w5)).mono ?_;rintro e w6 ⟨r,rfl,⟨hr0,hr1⟩,HRR,hc6,hg6⟩;have st6:=(ST5.out.alloc _).grown hc6 hg6 hp hsz1;have ST6:=hide st6;have s1:=Zaa st6.box 1;have hbx:=Zab st6.box;simp at s1;clear hc6 hg6 st6 ST5;by_cases h12:(ls.length:Int)<12
   ·go_wp2_with fail
    refine (ZeE _ ls ⟨1+x2,1+x,1+c,r⟩ _ (by omega) (Zan (ST6.out.alloc _).o1)).mono ?_;rintro e w7 ⟨v',rfl,o7,b7⟩;obtain⟨b2,c2,rfl⟩:=ZaX.shape (Zan o7);have st7:=(ST6.out.alloc _).put1 b7 o7 hp hsz1;have t1:=Zaa ((ST6.out.alloc (.cells #[.int .i64 (1+x2),.int .i64 (1+x),.int .i64 (1+c),.int .i64 r] 99)).below b7).box 1;have f1:=Zae ((ST6.out.alloc (.cells #[.int .i64 (1+x2),.int .i64 (1+x),.int .i64 (1+c),.int .i64 r] 99)).below b7).box 1;simp at t1;have ST7:=hide st7;have hr7:=ZcW HR.out (ZdA (n:=2+y0) (c:=1+c) (r:=r) ⟨by omega,by omega⟩ hab.1 hab.2.1 hab.2.2 ⟨by omega,by omega⟩ ⟨hr0,hr1⟩);have HR7:=hide hr7;have hl7:=ZeG ls ⟨1+x2,1+x,1+c,r⟩;have HL7:=hide hl7;clear o7 b7 st7 hr7 hl7 ST6;go_wp2;exact⟨⟨k+1,_,_,Zd9 ls ⟨1+x2,1+x,1+c,r⟩,by omega,by go_num,Zex HLF hk6 HY hcond HX HX2 HEN HCC HRR h12,ST7.out,HR7.out,by have:=HL7.out;omega⟩,by simp [intOf];omega⟩
   ·go_wp2;exact⟨⟨k+1,_,_,ls,by omega,by go_num,Zew HLF hk6 HY hcond (by omega),ST6.out.alloc _,HR.out,hll⟩,by simp [intOf];omega⟩
  ·have hab:1<=1+x/\1+x<1+x2/\1+x2<=2+y0:=by
    clear ST4 s0 s1 HR
    (try simp only [beq_eq_false_iff_ne,ne_eq,beq_iff_eq] at *)
    omega
   have HEN:=hide (show ZeL (2+y0) k x x2=(1+x,1+x2) by
    clear ST4 s0 s1 HR
    (try simp only [beq_eq_false_iff_ne,ne_eq,beq_iff_eq] at *)
    unfold ZeL;simp only [hm]
    split <;> (try split) <;> (try split) <;> first | (exfalso;omega) | rfl | (simp only [Prod.mk.injEq];omega))
   refine (Za5 p a len cap σ (u+1+1+1) 4 _ ST4.out.cur (by omega) (by omega)).mono ?_;rintro e w5 ⟨c,rfl,hc0,hc9,HCC,hc5,hg5⟩;have st5:=ST4.out.grown hc5 hg5 hp hsz1;have ST5:=hide st5;have hp5:=st5.cur.lt;clear hc5 hg5 st5 ST4 s0 s1
   go_wp2_with fail
   refine (ZeD p a len cap σ (u+1+1+1+1) w5.heap.size _ (ST5.out.cur.alloc _) (by omega) (Zcr w5)).mono ?_;rintro e w6 ⟨r,rfl,⟨hr0,hr1⟩,HRR,hc6,hg6⟩;have st6:=(ST5.out.alloc _).grown hc6 hg6 hp hsz1;have ST6:=hide st6;have s1:=Zaa st6.box 1;have hbx:=Zab st6.box;simp at s1;clear hc6 hg6 st6 ST5;by_cases h12:(ls.length:Int)<12
   ·go_wp2_with fail
    refine (ZeE _ ls ⟨1+x,1+x2,1+c,r⟩ _ (by omega) (Zan (ST6.out.alloc _).o1)).mono ?_;rintro e w7 ⟨v',rfl,o7,b7⟩;obtain⟨b2,c2,rfl⟩:=ZaX.shape (Zan o7);have st7:=(ST6.out.alloc _).put1 b7 o7 hp hsz1;have t1:=Zaa ((ST6.out.alloc (.cells #[.int .i64 (1+x),.int .i64 (1+x2),.int .i64 (1+c),.int .i64 r] 99)).below b7).box 1;have f1:=Zae ((ST6.out.alloc (.cells #[.int .i64 (1+x),.int .i64 (1+x2),.int .i64 (1+c),.int .i64 r] 99)).below b7).box 1;simp at t1;have ST7:=hide st7;have hr7:=ZcW HR.out (ZdA (n:=2+y0) (c:=1+c) (r:=r) ⟨by omega,by omega⟩ hab.1 hab.2.1 hab.2.2 ⟨by omega,by omega⟩ ⟨hr0,hr1⟩);have HR7:=hide hr7;have hl7:=ZeG ls ⟨1+x,1+x2,1+c,r⟩;have HL7:=hide hl7;clear o7 b7 st7 hr7 hl7 ST6;go_wp2;exact⟨⟨k+1,_,_,Zd9 ls ⟨1+x,1+x2,1+c,r⟩,by omega,by go_num,Zex HLF hk6 HY hcond HX HX2 HEN HCC HRR h12,ST7.out,HR7.out,by have:=HL7.out;omega⟩,by simp [intOf];omega⟩
   ·go_wp2;exact⟨⟨k+1,_,_,ls,by omega,by go_num,Zew HLF hk6 HY hcond (by omega),ST6.out.alloc _,HR.out,hll⟩,by simp [intOf];omega⟩
end Go.Proofs.YtdhnddfnckgbjaaGreat
namespace Go.Proofs.YtdhnddfnckgbjaaGreat
open Go.RowKit
open Go.ChangeMaps (setBlock)

set_option linter.unusedSimpArgs false

theorem ZlG (l:List PS):flat Zbu (l.map psP)=flat Zbz l:=by
 unfold flat Zbz;rw [List.flatMap_map]

theorem Tryz.infoPlaced:(Tryz.prog.info? 68).map (fun i=>(i.zero,i.size,i.bytes))=some (some (.agg #[.int .i64 0,.bool false,.int .i64 0,.slice none 0 0]),4,48):=by kernel_rfl

theorem Zlz (p:PS):(Zbz p).length=4:=rfl

theorem ZgM (l:List PS):(flat Zbz l).length=l.length*4:=ZcK Zlz l

theorem Zgk:∀ (qs ms:List PlP),qs.Perm ms->ZfB qs->ms.Pairwise (fun a b=>a.1<b.1)->qs=ms
 | [],ms,hp,_,_=>by rw [List.nil_perm.1 hp]
 | q::qs,[],hp,_,_=>by have:=hp.length_eq;simp at this
 | q::qs,m::ms,hp,hs,ha=>by
  unfold ZfB at hs;rw [YAh] at hs ha;have hqm:q=m:=by
   have h1:q∈m::ms:=hp.mem_iff.1 (by simp);have h2:m∈q::qs:=hp.mem_iff.2 (by simp);rcases YAR.1 h1 with h1 | h1
   ·exact h1
   ·rcases YAR.1 h2 with h2 | h2
    ·exact h2.symm
    ·have a1:=ha.1 q h1;have a2:=hs.1 m h2;rw [Zhm] at a2;omega
  subst hqm;rw [Zgk qs ms (List.Perm.cons_inv hp) hs.2 ha.2]

theorem Zj3 {α:Type}{es:List α}{ord:List Nat}{d:α}(hn:ord.Nodup)(hl:∀ j∈ord,j<es.length)(hall:∀ j,j<es.length->j∈ord):(ord.map (fun j=>es.getD j d)).Perm es:=by
 have hp:ord.Perm (List.range es.length):=by
  rw [List.perm_ext_iff_of_nodup hn List.nodup_range];intro j;rw [List.mem_range];exact⟨hl j,hall j⟩
 have e:es=(List.range es.length).map (fun j=>es.getD j d):=by
  apply List.ext_getElem?;intro i;by_cases hi:i<es.length
  ·simp [YAZ,List.getElem?_range hi,List.getD,YAA hi]
  ·rw [List.getElem?_eq_none (by omega),List.getElem?_eq_none (by simp;omega)]
 conv=>rhs;rw [e]
 exact hp.map _

def ent9 (x:PS × Value):PlP × Value:=(psP x.1,x.2)

def dPS:PS × Value:=((0,ZdW,none,0,0),.slice none 0 0)

def Zcx (es:List (PS × Value))(ord:List Nat):List PS:=ord.map (fun j=>(es.getD j dPS).1)

theorem ZbL (es:List (PS × Value))(ord:List Nat):(Zcx es ord).length=ord.length:=by simp [Zcx]

theorem ZgZ {es:List (PS × Value)}{ord:List Nat}{j:Nat}{x:PS × Value}(h:es[j]? = some x):Zcx es ord++[x.1]=Zcx es (ord++[j]):=by
 unfold Zcx;rw [YAW];simp [List.getD,h]

structure RgAt (W:World) (r m n:Nat) (ord:List Nat) (c0:Nat):Prop where
 it:W.heap[r]? = some (.mapIter (some m) n ord.toArray c0)
 c:n<=c0
 nd:ord.Nodup
 lt:∀ j∈ord,j<n

theorem ZjN {es:List (PlP × Value)}{x:MapEntry}(h:x∈Zbv 0 es):∃ y,es[x.born]? = some y/\x=⟨kV y.1.2.1.thing y.1.2.1.to,y.2,x.born⟩:=by
 obtain⟨j,hj,e⟩:=List.getElem_of_mem h;have h1:(Zbv 0 es)[j]? = some x:=by rw [<-e];exact YAA hj
 rw [Zdt] at h1;cases hy:es[j]? with
 | none=>rw [hy] at h1;simp at h1
 | some y=>
  rw [hy] at h1;simp only [Option.map_some,Option.some.injEq,Nat.zero_add] at h1;subst h1;exact⟨y,hy,rfl⟩

theorem ZgG:∀ (i:Nat)(es:List (PlP × Value)),((Zbv i es).map (·.born)).Nodup/\∀ b∈(Zbv i es).map (·.born),i<=b
 | _,[]=>by simp [Zbv]
 | i,x::xs=>by
  have ih:=ZgG (i+1) xs;simp only [Zbv,List.map_cons,List.nodup_cons];refine⟨⟨fun h=>?_,ih.1⟩,fun b hb=>?_⟩
  ·have:=ih.2 _ h;omega
  ·rcases YAR.1 hb with rfl | h
   ·exact YA _
   ·have:=ih.2 _ h;omega

theorem Zow {W:World}{lo hi r m:Nat}{es:List (PS × Value)}{ord:List Nat}{c0:Nat}(hl:LmAt W lo hi m (es.map ent9))(hr:RgAt W r m es.length ord c0)(hrm:r≠m):
  ((∀ j,j<es.length->j∈ord)/\(Instr.next (.pointer (some ⟨r,0,none⟩)) false 0).run Tryz.prog W=.ok (.tuple #[.bool false]) W) \/
  ∃ (j:Nat) (x:PS × Value) (W1:World),es[j]? = some x/\j ∉ ord/\RgAt W1 r m es.length (ord++[j]) es.length/\W.grownBy W1 (some r) /\
   (Instr.next (.pointer (some ⟨r,0,none⟩)) false 0).run Tryz.prog W=.ok (.tuple #[.bool true,kV x.1.2.1.thing x.1.2.1.to,x.2]) W1 /\
   (Instr.entry (.pointer (some ⟨r,0,none⟩))).run Tryz.prog W1=.ok (.tuple #[kV x.1.2.1.thing x.1.2.1.to,x.2]) W1:=by
 have hm:=hl.map;rw [YAb] at hm;have hold:∀ x∈((Zbv 0 (es.map ent9)).toArray).toList,x.born<es.length:=fun x hx=>by
  obtain⟨y,hy,_⟩:=ZjN (by simpa using hx);have:=(YAD.1 hy).1;simpa using this
 rcases run_next_at (P:=Tryz.prog) W 0 r m es.length c0 ord.toArray (Zbv 0 (es.map ent9)).toArray es.length hr.it hm hold hr.c with ⟨h0,hrun⟩ | ⟨e,he,w1,hw1,hrun⟩
 ·left;refine⟨fun j hj=>?_,hrun⟩;have h1:leftOf (Zbv 0 (es.map ent9)).toArray ord.toArray=#[]:=Array.eq_empty_of_size_eq_zero h0;unfold leftOf at h1;rw [Array.filter_eq_empty_iff] at h1;have h2:(Zbv 0 (es.map ent9))[j]? = some ⟨kV (ent9 es[j]).1.2.1.thing (ent9 es[j]).1.2.1.to,(ent9 es[j]).2,j⟩:=by
   rw [Zdt,YAZ,YAA hj];simp
  have h3:=h1 _ (by simpa using YAF h2);simpa using h3
 ·right;unfold leftOf at he;simp only [Array.toList_filter,YAT,List.toList_toArray] at he;obtain⟨he1,he2⟩:=he;obtain⟨y,hy,hey⟩:=ZjN he1;rw [YAZ] at hy;cases hx:es[e.born]? with
  | none=>rw [hx] at hy;simp at hy
  | some x=>
   rw [hx] at hy;simp only [Option.map_some,Option.some.injEq] at hy;subst hy;obtain⟨b,hb⟩:∃ b,b=e.born:=⟨_,rfl⟩;rw [<-hb] at hx hey;have hbo:b ∉ ord:=by rw [hb];simpa using he2
   have hw1h:w1.heap=W.heap:=by rcases hw1 with rfl | rfl <;> rfl
   have hit1:w1.heap[r]? = some (.mapIter (some m) es.length ord.toArray c0):=by rw [hw1h];exact hr.it
   have hrl:r<w1.heap.size:=Zab hit1;obtain⟨W1,hW1⟩:∃ W1,W1=setBlock w1 r (.mapIter (some m) es.length (ord.toArray.push e.born) es.length):=⟨_,rfl⟩;rw [<-hW1] at hrun;have hr1:W1.heap[r]? = some (.mapIter (some m) es.length (ord++[b]).toArray es.length):=by
    rw [hW1];unfold setBlock;simp [Array.getElem?_setIfInBounds_self_of_lt hrl,hb]
   have ho1:∀ j,j≠r->W1.heap[j]? = W.heap[j]? := fun j hj=>by
    rw [hW1, <-hw1h];unfold setBlock;simp [Array.getElem?_setIfInBounds_ne (Ne.symm hj)]
   have hs1:W1.heap.size=W.heap.size:=by rw [hW1, <-hw1h];simp [setBlock]
   have hbn:b<es.length:=(YAD.1 hx).1;refine⟨b,x,W1,hx,hbo,⟨hr1,YA _,?_,?_⟩,?_,?_,?_⟩
   ·rw [List.nodup_append];exact⟨hr.nd,by simp,fun a ha c hc=>by
     have:c=b:=by simpa using hc
     subst this;exact fun e=>hbo (e ▸ ha)⟩
   ·intro j hj;rcases YAH.1 hj with h | h
    ·exact hr.lt j h
    ·have:j=b:=by simpa using h
     omega
   ·refine ⟨?_,?_,?_,by omega,fun j _ hj=>ho1 j (fun e=>hj (by rw [e]))⟩ <;> (rw [hW1];rcases hw1 with rfl | rfl <;> rfl)
   ·have e1:e.key=kV x.1.2.1.thing x.1.2.1.to:=by rw [hey];rfl
    have e2:e.val=x.2:=by rw [hey];rfl
    rw [<-e1, <-e2];exact hrun
   ·have e1:e.key=kV x.1.2.1.thing x.1.2.1.to:=by rw [hey];rfl
    have e2:e.val=x.2:=by rw [hey];rfl
    rw [<-e1, <-e2];refine run_entry_at W1 r m es.length ord.toArray (Zbv 0 (es.map ent9)).toArray es.length e ?_ ((ho1 m (Ne.symm hrm)).trans hm) (by simpa using he1) (by simpa using (ZgG 0 (es.map ent9)).1);rw [hr1,hb];simp

theorem Zmd {W:World}{lo:Nat}{v:Value}{x:PS}(h:W.ownsRow lo 68 4 v 1 (Zbu (psP x))):W.ownsRow lo 68 4 v [x].length (flat Zbz [x]):=by
 have e:flat Zbz [x]=Zbu (psP x):=by simp [flat,Zbz]
 rw [e];exact h

set_option maxRecDepth 100000 in
set_option maxHeartbeats 4000000 in
theorem Zm6 (lo m:Nat)(es:List (PS × Value))(blo:Nat)(w:World)(h:LmAt w lo w.heap.size m (es.map ent9))(hlen:es.length<=1048576)
  (hhop:∀ x∈es,w.ownsRow blo 3 1 (psP x.1).2.2 x.1.2.1.hops.length (flat intE x.1.2.1.hops)) (hhl:∀ x∈es,x.1.2.1.hops.length<=1048576) (hasc:(es.map (fun x=>psP x.1)).Pairwise (fun a b=>a.1<b.1)):
  Calls Tryz.prog 19 #[.map (some m)] w fun e w'=>∃ u qs,e=.returned u/\Zag qs=es.map (fun x=>x.1.2.1)/\LnsOwn w' w.heap.size w'.heap.size u qs/\Below w.heap.size w w':=by
 have hmw:m<w.heap.size:=h.high;have hm:=h.map;rw [YAb] at hm;have hrg:=run_range_map (P:=Tryz.prog) w 43 46 66 m (Zbv 0 (es.map ent9)).toArray es.length Tryz.underlying43 hm;have HL:=hide h;have HHOP:=hide hhop;have HASC:=hide hasc;have HHL:=hide hhl;clear h hhop hasc hm hhl;have bI:=(YAB w.heap.size w).alloc (YA _) (.mapIter (some m) es.length #[] es.length);have hI:=YAE w (.mapIter (some m) es.length #[] es.length);obtain⟨WI,hWI⟩:∃ WI,WI=w.alloc (.mapIter (some m) es.length #[] es.length):=⟨_,rfl⟩;rw [<-hWI] at hrg bI hI;clear hWI;have hRG:RgAt WI w.heap.size m es.length [] es.length:=⟨hI,YA _,by simp,by simp⟩;have HRG:=hide hRG;have hIs:=Zab hI;clear hI hRG
 go_enter Tryz.func19,Tryz.ntmps19
 go_wp2;clear hrg
 go_loopw [3] (fun s wr=>∃ (ord:List Nat) (ua:Option Addr) (uc c0:Nat),s=.slice ua ord.length uc/\Hid (RgAt wr w.heap.size m es.length ord c0)/\ord.length<=es.length/\Hid (wr.ownsRow (w.heap.size+1) 68 4 (.slice ua ord.length uc) ord.length (flat Zbz (Zcx es ord)))/\Below w.heap.size w wr) (fun s _=>es.length-lenV s)
 case atStart=>exact ⟨[],none,0,es.length,rfl,HRG,by simp,hide (YAj _ _ _ _),bI⟩
 case round=>
  obtain⟨ord,ua,uc,c0,rfl,HR,hol,HOW,hnx⟩:=hrel;have hlm:=HL.out.below hnx (YA _);have hrs:=Zab HR.out.it;rcases Zow hlm HR.out (by omega) with ⟨hall,hrun⟩ | ⟨j,x,W1,hx,hj,hR1,hg1,hrun,hent⟩
  ·have HALL:=hide hall;clear hall hlm;have hperm:=Zj3 (d:=dPS) HR.out.nd HR.out.lt HALL.out;have hpm:((Zcx es ord).map psP).Perm (es.map (fun x=>psP x.1)):=by
    have h1:=hperm.map (fun x=>psP x.1);rw [YAa] at h1;unfold Zcx;rw [YAa];exact h1
   have hordl:ord.length=es.length:=by have:=hperm.length_eq;simpa using this
   have hrow:wr.ownsRow (w.heap.size+1) 68 4 (.slice ua ord.length uc) ((Zcx es ord).map psP).length (flat Zbu ((Zcx es ord).map psP)):=by
    rw [ZlG,YAb,ZbL];exact HOW.out
   have HSO:=hide (ZiB (.slice ua ord.length uc) _ (w.heap.size+1) wr hrow (fun q hq=>by
    obtain⟨y,_,rfl⟩:=YAV.1 hq;exact⟨_,_,_,rfl⟩) (by rw [YAb,ZbL];omega))
   have HPM:=hide hpm;have HRW:=hide hrow;have HORD:=hide hordl;clear hperm hpm hrow HOW hordl
   go_wp2_with fail
   refine HSO.out.mono ?_;rintro e w2 ⟨rfl,qs,hqp,hqs,hown2,hg2⟩;have hqe:qs=es.map (fun x=>psP x.1):=Zgk _ _ (hqp.trans HPM.out) hqs HASC.out;subst hqe;have bW2:Below w.heap.size w w2:=hnx.grown hg2 hnx.size (fun k hk=>by have:=(HRW.out.lt k hk).1;omega);rw [YAb] at hown2;rw [HORD.out] at hown2 |-;have HO2:=hide hown2;have hw2s:=bW2.size;clear hqp hqs hown2 hg2 HRW HPM HSO HR HALL hnx hrun HORD hol;go_wp2;have b3:=(YAB w2.heap.size w2).alloc (YA _) (.cells #[] 39);have o3:LnsOwn (w2.alloc (.cells #[] 39)) w2.heap.size (w2.alloc (.cells #[] 39)).heap.size (.slice (some ⟨w2.heap.size,0,none⟩) 0 0) []:=by
    have h1:(w2.alloc (.cells #[] 39)).ownsRow w2.heap.size 39 3 (.slice (some ⟨w2.heap.size,0,none⟩) 0 0) 0 (flat encJ []):=YAU w2 #[] 0 (YA _) (by unfold maxLen;omega) (by simp);exact⟨h1,fun k hk=>(h1.lt k hk).2,by simp,by simp⟩
   generalize w2.alloc (.cells #[] 39)=W3 at *;have B3:=hide b3;have O3:=hide o3;clear b3 o3
   go_loopw [6,23] (fun s i wr=>∃ (k:Nat) (ys:List JP) (ya:Option Addr) (yc:Nat),k<=es.length/\i=.int .i64 (k:Int)/\s=.slice ya k yc/\Hid (Zag ys=(es.take k).map (fun x=>x.1.2.1))/\Hid (LnsOwn wr w2.heap.size wr.heap.size (.slice ya k yc) ys)/\Below w2.heap.size w2 wr) (fun _ i _=>es.length-(intOf i).toNat)
   case atStart=>exact ⟨0,[],_,0,by omega,rfl,rfl,hide (by simp [Zag]),O3,B3.out⟩
   case round=>
    obtain⟨k,ys,ya,yc,hk,rfl,rfl,HYS,HYO,hny⟩:=hrel;have hysl:ys.length=k:=by have h1:=congrArg List.length HYS.out;simpa [Zag,List.length_take,Nat.min_eq_left hk] using h1
    by_cases hlt:k<es.length
    ·obtain ⟨x,hx⟩:∃ x,es[k]? = some x:=⟨es[k],YAA hlt⟩;obtain⟨g,gc,hue,hg1,hgl⟩:=ZbC HO2.out (by omega);cases hue;have hcell:∀ c u,(Zbu (psP x.1))[c]? = some u->c<4->wr.cell? ⟨g,k*4+c,none⟩=some u:=fun c u hu hc=>by
      rw [hny.cell (p:=⟨g,k*4+c,none⟩) hgl,HO2.out.cellAt _ (by omega),Zbi Zds _ k c (psP x.1) (by rw [YAZ,hx];rfl) hc];exact hu
     have c0:=hcell 0 _ rfl (by omega);have c1:=hcell 1 _ rfl (by omega);have c2:=hcell 2 _ rfl (by omega);have c3:=hcell 3 _ rfl (by omega);rw [Nat.add_zero] at c0;have hxm:=YAF hx;have hho:=HHOP.out x hxm;have hhl:=HHL.out x hxm;obtain⟨⟨pl,xl,xa,xn,xc⟩,xv⟩:=x;simp only [psP] at c0 c1 c2 c3 hho hhl;have bwr:Below w.heap.size w wr:=bW2.trans (hny.mono hw2s);have hwrs:=bwr.size;have hys:=hny.size;have HOL:=hide (fun W (hb:Below w.heap.size w W)=>Zd7 xl (.slice xa xn xc) blo W (Zad hho hb (YA _)) hhl);unfold lnC at HOL;have HTK:=hide (show (es.take (k+1)).map (fun x=>x.1.2.1)=(es.take k).map (fun x=>x.1.2.1)++[xl] by
      obtain⟨h1,h2⟩:=YAD.1 hx;rw [YAJ h1,YAW,h2];rfl)
     have hki:(0:Int)<=(k:Int):=by omega
     have hkj:(k:Int)<(es.length:Int):=by omega
     have HYL:=hide hysl;clear hx hxm hho hcell hysl
     go_wp2_with fail
     have bb:=(YAB wr.heap.size wr).alloc (YA _) (.cells #[.int .i64 pl,.bool xl.thing,.int .i64 xl.to,.slice xa xn xc] 68);obtain⟨W5,hW5⟩:∃ W5,W5=wr.alloc (.cells #[.int .i64 pl,.bool xl.thing,.int .i64 xl.to,.slice xa xn xc] 68):=⟨_,rfl⟩;rw [<-hW5] at bb |-;clear hW5;refine (HOL.out _ (bwr.trans (bb.mono hwrs))).mono ?_;rintro e w6 ⟨v6,rfl,hn6,b6⟩;obtain⟨n6a,n6c,rfl⟩:=Zac hn6;have b56:Below wr.heap.size wr w6:=bb.trans (b6.mono bb.size);have b5s:=bb.size;have b6s:=b6.size;have HYO6:=HYO;rw [show (k:Nat)=ys.length from HYL.out.symm] at HYO6
     go_wp2_with (first
      | (at_builtin;refine Zay Zb6 (by omega) (by omega) _ rfl _ _ 24 rfl w2.heap.size 39 Tryz.underlying24 (.agg (lnC ZdW (.slice none 0 0))) rfl Tryz.infoLine _ ys (xl,.slice n6a xl.hops.length n6c) (Zfs _ _ _ _) rfl ((Zad HYO.out.row b56 (YA _)).alloc _) ⟨w6.heap.size,0,none⟩ 1 rfl (Zak (cs:=encJ (xl,.slice n6a xl.hops.length n6c))) (by have:=HYL.out;omega) (by simp;omega) ?_))
     intro v' w7 hown' hgrow;have ow7:=HYO.out.push (p:=(xl,.slice n6a xl.hops.length n6c)) (b56.alloc b56.size _) (by omega) (ZaW.wide (ZaW.keep ⟨Zaf hn6 b5s,fun k hk=>(hn6.lt k hk).2⟩ (fun j _ _ h3=>YAI _ _ _ h3)) (YA _) (by simp)) (by simpa using hown') hgrow;have hl7:(ys++[(xl,Value.slice n6a xl.hops.length n6c)]).length=k+1:=by rw [YAM,HYL.out];rfl
     have hb7:Below w2.heap.size w2 w7:=((hny.trans (b56.mono hys)).alloc (by omega) _).grown hgrow (by simp;omega) (fun k hk=>(HYO.out.row.lt k hk).1);obtain⟨va,vc,hve⟩:=Zac ow7.row;rw [hl7] at hve;subst hve;have OW7:=hide ow7;have HY7:=hide (show Zag (ys++[(xl,Value.slice n6a xl.hops.length n6c)])=(es.take (k+1)).map (fun x=>x.1.2.1) by rw [HTK.out, <-HYS.out];simp [Zag]);clear ow7 hown' hgrow hn6 HYO HYO6 HYS HTK HOL hl7;go_wp2;go_roundw
     case rel=>exact ⟨k+1,ys++[(xl,.slice n6a xl.hops.length n6c)],va,vc,by omega,by go_num,rfl,HY7,OW7,hb7⟩
     case measure=>simp [intOf];omega
    ·have hkn:k=es.length:=by omega
     have KN:=hide hkn;clear hkn hysl;go_wp2;go_ret;refine⟨_,ys,rfl,?_,(HYO.out.wide hw2s (YA _)),bW2.trans (hny.mono hw2s)⟩;have h1:=HYS.out;rw [KN.out,YAX] at h1;exact h1
  ·have hxr:=HL.out.rows (ent9 x) (YAV.2 ⟨x,YAF hx,rfl⟩);obtain⟨xa,xc,hxe⟩:=Zac hxr.1;have hxe2:x.2=.slice xa 1 xc:=hxe;rw [hxe2] at hrun hent;unfold kV at hrun hent;have bW1:Below w.heap.size w W1:=hnx.grown hg1 hnx.size (fun k hk=>by simp at hk;omega);have hrow1:W1.ownsRow lo 68 4 (.slice xa 1 xc) [x.1].length (flat Zbz [x.1]):=by
    have h1:=Zmd (x:=x.1) (v:=x.2) hxr.1;rw [hxe2] at h1;exact Zai h1 (fun k e=>bW1.block k (hxr.2 k (by show x.2.ownBlock=_;rw [hxe2];exact e)))
   have hown1:W1.ownsRow (w.heap.size+1) 68 4 (.slice ua ord.length uc) ord.length (flat Zbz (Zcx es ord)):=
    Zai HOW.out (fun k e=>hg1.block k (HOW.out.lt k e).2 (fun e9=>by have:=(HOW.out.lt k e).1;simp at e9;omega))
   have hjl:j<es.length:=(YAD.1 hx).1;have hol2:ord.length+1<=es.length:=by
    have h1:=hR1.nd.length_le_of_subset (l₂:=List.range es.length) (fun k hk=>by rw [List.mem_range];exact hR1.lt k hk);rw [YAM,List.length_range] at h1;exact h1
   have HPU:=hide (ZgZ (ord:=ord) hx);have HROW1:=hide hrow1;have HOWN1:=hide hown1;have HR1:=hide hR1;clear hrow1 hown1 hR1 hg1 hxr hxe hxe2 hx hj HR HOW hlm hnx;have hs1:=bW1.size
   go_wp2_with (first
    | (at_builtin;refine Zbw ZgM (by omega) ZfO (by omega) _ rfl _ _ 66 rfl (w.heap.size+1) 68 Tryz.underlying66 (.agg #[.int .i64 0,.bool false,.int .i64 0,.slice none 0 0]) rfl Tryz.infoPlaced _ (Zcx es ord) rfl ?own0 lo _ [x.1] rfl HROW1.out (by simp [ZbL];omega) ?sz0 ?_))
   case own0=>rw [ZbL];exact HOWN1.out
   case sz0=>have:=Zab HR1.out.it;omega
   intro v' w4 hown' hgrow;have hown2:w4.ownsRow (w.heap.size+1) 68 4 v' (ord.length+1) (flat Zbz (Zcx es (ord++[j]))):=by
    rw [<-HPU.out];simpa [ZbL] using hown'
   clear hown';obtain⟨va,vc,rfl⟩:=Zac hown2;have hlen4:(ord++[j]).length=ord.length+1:=by simp
   have hrb:w4.heap[w.heap.size]? = W1.heap[w.heap.size]? := hgrow.block _ (Zab HR1.out.it) (fun e9=>by have:=(HOWN1.out.lt _ e9.symm).1;omega);have HR4:=hide (show RgAt w4 w.heap.size m es.length (ord++[j]) es.length from ⟨hrb.trans HR1.out.it,HR1.out.c,HR1.out.nd,HR1.out.lt⟩);have HB4:=hide (bW1.grown hgrow hs1 (fun k hk=>by have:=(HOWN1.out.lt k hk).1;omega));have HO4:=hide (show w4.ownsRow (w.heap.size+1) 68 4 (.slice va (ord++[j]).length vc) (ord++[j]).length (flat Zbz (Zcx es (ord++[j]))) by rw [hlen4];exact hown2);have hol3:(ord++[j]).length<=es.length:=by rw [hlen4];exact hol2
   have HLN:=hide hlen4;have HRF:=hide (show Value.slice va (ord.length+1) vc=.slice va (ord++[j]).length vc by rw [hlen4]);clear hown2 hgrow hrb HR1 HOWN1 HROW1 HPU hlen4;go_wp2;go_roundw
   case rel=>exact ⟨ord++[j],va,vc,es.length,HRF.out,HR4,hol3,HO4,HB4.out⟩
   case measure=>simp only [lenV];omega
end Go.Proofs.YtdhnddfnckgbjaaGreat
namespace Go.Proofs.YtdhnddfnckgbjaaGreat
open Go.RowKit
open Go.ChangeMaps (setBlock)

set_option linter.unusedSimpArgs false
set_option linter.unusedVariables false

def plJ (ps:List JP):List PlP:=ps.zipIdx.map (fun p=>((p.2:Int),p.1))

theorem Znr {ps:List JP}{k:Nat}{p:JP}(h:ps[k]? = some p):plJ (ps.take (k+1))=plJ (ps.take k)++[((k:Int),p)]:=by
 obtain⟨hk,e⟩:=YAD.1 h;unfold plJ;rw [YAJ hk,e,List.zipIdx_append,YAW];simp [Nat.min_eq_left (Nat.le_of_lt hk)]

theorem Zos (ps:List JP):(plJ ps).map (fun x=>x.2.1)=Zag ps:=by
 unfold plJ Zag;rw [YAa];show ps.zipIdx.map (fun p=>p.1.1)=_;rw [show (fun p:JP × Nat=>p.1.1)=(fun p:JP=>p.1) ∘ Prod.fst from rfl, <-YAa,List.zipIdx_map_fst]

structure LpAt (W:World) (lo m:Nat) (ps:List JP) (k:Nat) (es:List (PlP × Value)):Prop where
 lm:LmAt W lo W.heap.size m es
 pl:es.map (·.1)=plJ (ps.take k)
 len:es.length=k

theorem LpAt.lns {W:World}{lo m:Nat}{ps:List JP}{k:Nat}{es:List (PlP × Value)}(h:LpAt W lo m ps k es):ZbB es=Zag (ps.take k):=by
 have h1:=congrArg (List.map (fun x:PlP=>x.2.1)) h.pl;rw [Zos,YAa] at h1;exact h1

theorem ZlQ {ps:List JP}{k:Nat}{p:JP}(hk:ZaP (Zag ps))(h:ps[k]? = some p):idxZ (Zag (ps.take k)) p.1.thing p.1.to = -1:=by
 refine Zi7 (Zd3.2 fun y hy=>?_);obtain⟨hl,e⟩:=YAD.1 h;have e2:ps=ps.take k++(p::ps.drop (k+1)):=by rw [<-e];simp
 unfold ZaP at hk;rw [e2] at hk;unfold Zag at hk hy;rw [YAW,YAP] at hk;rw [ZbA];exact hk.2.2 y hy p.1 (by simp)

set_option maxRecDepth 100000 in
set_option maxHeartbeats 4000000 in
theorem Zhz (v:Value)(ps:List JP)(w:World)(hv:Zb8 w v ps w.heap.size)(hk:ZaP (Zag ps))(hn:totJ ps<=1048576):
  Calls Tryz.prog 16 #[v] w fun e w'=>∃ m es,e=.returned (.map (some m))/\LpAt w' w.heap.size m ps ps.length es/\Below w.heap.size w w':=by
 have hnl:=Zbj ps;obtain⟨a1,c1,rfl⟩:=hv.shape;have HV:=hide hv;have HKD:=hide hk;clear hv hk;have hmk:(Instr.makeMap 43 none).run Tryz.prog w=.ok (.map (some w.heap.size)) (w.alloc (.map #[] 0)):=by rfl
 have bM:=(YAB w.heap.size w).alloc (YA _) (.map #[] 0);have lM:=(LmAt.made w).wide (hi':=(w.alloc (.map #[] 0)).heap.size) (by simp);obtain⟨WM,hWM⟩:∃ WM,WM=w.alloc (.map #[] 0):=⟨_,rfl⟩;rw [<-hWM] at bM lM hmk;clear hWM;have T0:=hide (show LpAt WM w.heap.size w.heap.size ps 0 [] from ⟨lM,by simp [plJ],rfl⟩);clear lM
 go_enter Tryz.func16,Tryz.ntmps16
 go_wp2;clear hmk
 go_loopw [9] (fun i wr=>∃ (k:Nat) (es:List (PlP × Value)),k<=ps.length/\i=.int .i64 (k:Int)/\Hid (LpAt wr w.heap.size w.heap.size ps k es)/\Below w.heap.size w wr) (fun i _=>ps.length-(intOf i).toNat)
 case atStart=>exact ⟨0,[],by omega,rfl,T0,bM⟩
 case round=>
  obtain⟨k,es,hk,rfl,HT,hnx⟩:=hrel;have hsz:=hnx.size;by_cases hlt:k<ps.length
  ·obtain ⟨p,hp⟩:∃ p,ps[k]? = some p:=⟨ps[k],YAA hlt⟩;obtain⟨b,off,cp,hve,hbb,d0,d1,d2,hh⟩:=HV.out.cells k p hp;cases hve;obtain⟨ha,hc,hpe⟩:=Zal.shape hh;rw [hpe] at d2;replace d0:=(hnx.cell hbb).trans d0;replace d1:=(hnx.cell hbb).trans d1;replace d2:=(hnx.cell hbb).trans d2;have hki:(0:Int)<=(k:Int):=by omega
   have hkj:(k:Int)<(ps.length:Int):=by omega
   have HNO:=hide (show idxZ (ZbB es) p.1.thing p.1.to = -1 by rw [HT.out.lns];exact ZlQ HKD.out hp);have HPL:=hide (Znr hp);have HPE:=hide hpe;clear hp hpe hh;go_wp2;have bb:=(YAB wr.heap.size wr).alloc (YA _) (.cells #[.bool p.1.thing,.int .i64 p.1.to,.slice ha p.1.hops.length hc] 39);have hbx:=YAE wr (.cells #[.bool p.1.thing,.int .i64 p.1.to,.slice ha p.1.hops.length hc] 39);obtain⟨W5,hW5⟩:∃ W5,W5=wr.alloc (.cells #[.bool p.1.thing,.int .i64 p.1.to,.slice ha p.1.hops.length hc] 39):=⟨_,rfl⟩;rw [<-hW5] at bb hbx |-;clear hW5 d0 d1 d2;have HBX:=hide hbx;have HT5:=hide ((HT.out.lm.below bb (YA _)).wide bb.size);have hmw:=HT.out.lm.high;refine wp_region_noPanic ?_;refine Zah (S:=(fun W=>W.heap[wr.heap.size]? = some (.cells #[.bool p.1.thing,.int .i64 p.1.to,.slice ha p.1.hops.length hc] 39))) (by kernel_rfl) 13 rfl HBX.out (fun ops hops _=>?_);refine lm_dag wr.heap.size w.heap.size p.1 (.slice ha p.1.hops.length hc) (by
    intro u hu;simp only [Zbu,YAR,List.not_mem_nil,or_false] at hu;rcases hu with rfl | rfl | rfl | rfl <;> rfl) (k:Int) (Zbv 0 es).toArray es.length (ksOf es) W5.drew _ ops hops (Zab HBX.out) (Zab HT5.out.map) (by omega) (Zcs p.1 (.slice ha p.1.hops.length hc)) HBX.out HT5.out.map (Zdu 0 es) (ZdM HNO.out) ?_
   intro W g1 v9 g ho9;clear hops ops;have gs:W5.heap.size<=W.heap.size:=g.size;have hm5:=Zab HT5.out.map;have hMW:W.heap[w.heap.size]? = some (.map (Zbv 0 es).toArray es.length):=(g.block _ hm5).trans HT5.out.map;obtain⟨W9,hW9⟩:∃ W9,W9=setBlock W w.heap.size (.map ((Zbv 0 es).toArray.push ⟨kV p.1.thing p.1.to,v9,es.length⟩) (es.length+1)):=⟨_,rfl⟩;have hk9:∀ j,j≠w.heap.size->W9.heap[j]? = W.heap[j]? := fun j hj=>by rw [hW9];exact Go.ChangeMaps.heap_setBlock_other hMW _ hj
   have hm9:W9.heap[w.heap.size]? = some (.map ((Zbv 0 es).toArray.push ⟨kV p.1.thing p.1.to,v9,es.length⟩) (es.length+1)):=by rw [hW9];exact Go.ChangeMaps.heap_setBlock_same hMW _
   have hs9:W9.heap.size=W.heap.size:=by rw [hW9];simp [setBlock]
   have hg9:W.grownBy W9 (some w.heap.size):=⟨by rw [hW9];rfl,by rw [hW9];rfl,by rw [hW9];rfl,by omega,fun j _ hj=>hk9 j (fun e=>hj (by rw [e]))⟩;have hne:∀ (r:Value) (xs:List Value) (b0:Nat),W.ownsRow b0 68 4 r 1 xs->∀ j,r.ownBlock=some j->W9.heap[j]? = W.heap[j]? := fun r xs b0 hr j hj=>hk9 j (fun e9=>by
    subst e9;rcases hr.2 with ⟨e1,_⟩ | ⟨g2,cap,cur,e1,_,hh2,_⟩
    ·rw [e1] at hj;cases hj
    ·rw [e1] at hj;simp [Value.ownBlock] at hj;subst hj;rw [hMW] at hh2;cases hh2)
   have FIN:LmAt W9 w.heap.size W9.heap.size w.heap.size (es++[(((k:Int),(p.1,.slice ha p.1.hops.length hc)),v9)]):=by
    refine⟨?_,YA _,by omega,?_⟩
    ·rw [hm9,ZeM,YAM];simp
    ·intro y hy;rcases YAH.1 hy with h1 | h1
     ·have hr:=HT5.out.rows y h1;have hrW:W.ownsRow w.heap.size 68 4 y.2 1 (Zbu y.1):=Zai hr.1 (fun j e=>g.block j (hr.2 j e));exact⟨Zai hrW (hne _ _ _ hrW),fun j e=>by have:=hr.2 j e;omega⟩
     ·have:y=(((k:Int),(p.1,Value.slice ha p.1.hops.length hc)),v9):=by simpa using h1
      subst this;have h5:w.heap.size<=W5.drew.heap.size:=Nat.le_of_lt hm5;exact⟨Zaf (Zai ho9 (hne _ _ _ ho9)) h5,fun j e=>by have:=(ho9.lt j e).2;omega⟩
   have hbW:Below w.heap.size w W:=(hnx.trans (bb.mono hsz)).drew.trans (g.mono (Nat.le_of_lt hm5));have LP:=hide (show LpAt W9 w.heap.size w.heap.size ps (k+1) (es++[(((k:Int),(p.1,.slice ha p.1.hops.length hc)),v9)]) from ⟨FIN,by rw [YAW,HT.out.pl,HPL.out, <-HPE.out];rfl,by rw [YAM,HT.out.len];rfl⟩);have HB9:=hide (hbW.grown hg9 hbW.size (fun j hj=>by simp at hj;omega));rw [<-hW9];clear FIN hW9 hk9 hm9 hs9 hg9 hne hMW hm5 gs g ho9 hbW HT5 HBX bb HNO HPL;go_wp2;go_roundw
   case rel=>exact ⟨k+1,_,by omega,by go_num,LP,HB9.out⟩
   case measure=>simp [intOf];omega
  ·have hkn:k=ps.length:=by omega
   have hlt':¬(k:Int)<(ps.length:Int):=by omega
   have HF:=hide (show LpAt wr w.heap.size w.heap.size ps ps.length es by rw [<-hkn];exact HT.out);clear hkn HT;go_wp2;go_ret
   first | exact ⟨_,es,rfl,HF.out,hnx⟩ | exact ⟨⟨_,es,rfl,HF.out⟩,hnx⟩ | exact ⟨es,HF.out,hnx⟩ | exact ⟨_,rfl,es,HF.out,hnx⟩ | exact ⟨_,rfl,⟨es,HF.out⟩,hnx⟩ | exact ⟨⟨_,rfl,es,HF.out⟩,hnx⟩
end Go.Proofs.YtdhnddfnckgbjaaGreat
