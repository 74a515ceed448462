/-
  Parts.
-/
import Derived.Test.YtikloccefmofdaaGreatFi5
import Derived.Laws.AppendOwnNone
namespace Go.Proofs.YtikloccefmofdaaGreat
open Go.RowKit
set_option linter.unusedSimpArgs false
set_option linter.unusedVariables false
set_option maxRecDepth 100000
set_option maxHeartbeats 8000000
variable {k:Nat}{p q:RP}{W:World}
theorem Zmx (a:Nr):∀ u∈nrE a,u.oneCell'=true:=by
 intro u hu;simp [nrE] at hu;rcases hu with rfl | rfl <;> rfl
theorem ZdL {α:Type}{enc:α->List Value}{sz bytes:Nat}(hlen:∀ l:List α,(flat enc l).length=l.length*sz)(hpos:0<sz)(hone:∀ a,∀ u∈enc a,u.oneCell'=true)(hbb:bytes<=100){P:Program}(w:World){ops:Array Oper}{rest:List Oper}{o:Oper}{a:Act}{Q:Exit->Act->World->Prop}(hgd:o.guard=none)(s x:Operand)(t:TypeId)
  (ho:o.op=.call { callee:=.builtin .append,args:=#[s,x],argTypes:=#[t,t] }) (base:Nat) (e:TypeId) (ht:P.underlying t=some (.slice e)) (zv:Value) (hzv:zv.cells.size=sz)
  (hinfo:(P.info? e).map (fun i=>(i.zero,i.size,i.bytes))=some (some zv,sz,bytes))
  (v:Value) (l:List α) (hs:a.eval s=v) (hown:w.ownsRow base e sz v l.length (flat enc l))
  (base2:Nat) (v2:Value) (l2:List α) (hx:a.eval x=v2) (hown2:w.ownsRow base2 e sz v2 l2.length (flat enc l2))
  (hl:l.length+l2.length<=1000000000) (hbase:base<=w.heap.size)
  (h:∀ v' w',w'.ownsRow base e sz v' (l++l2).length (flat enc (l++l2))->w.grownBy w' v.ownBlock->wpList P ops Q rest (a.put o.dst v') w'):wpList P ops Q (o::rest) a w:=by
 obtain⟨i0,hi,hz0,hz1,hz2⟩:=info_parts hinfo;rcases hown2.2 with ⟨e1,e2⟩ | ⟨g,cap,cur,e1,_⟩
 ·have e3:l2=[]:=YAr e2;subst e3;refine wpList_append_own_none hgd s x t ho base e i0 sz ht hi v l.length (flat enc l) hs hown (hx.trans e1) ?_;exact h v w (by simpa using hown) (Zcq w _)
 ·refine wpList_append_own w hgd s x t ho base e i0 zv sz bytes ht hi hz0 hz1 hz2 hzv hpos v l.length (flat enc l) hs hown ⟨g,0,none⟩ l2.length cap (flat enc l2) (hx.trans e1) (hlen l2) (hown2.cells (by rw [e1];rfl)) ?_ (by unfold maxLen;omega) ?_ hbase ?_
  ·intro u hu;simp only [flat,YAp] at hu;obtain⟨b,_,hb⟩:=hu;exact hone b u hb
  ·have:(l.length+l2.length)*bytes<=1000000000*100:=Nat.mul_le_mul hl hbb;omega
  ·intro v' w' h1 h2 _;have e1:flat enc l++flat enc l2=flat enc (l++l2):=by rw [ZaC]
   rw [e1] at h1;exact h v' w' (by simpa using h1) h2
abbrev Zny (W:World) (g:Nat) (x:RecD) (v:Value):World:=(((((((W.setCell ⟨g,0,none⟩ (.int .i64 x.area)).setCell ⟨g,1,none⟩ (.int .i64 x.kind)).setCell ⟨g,2,none⟩ (.int .i64 x.owner)).setCell ⟨g,3,none⟩ (.int .i64 x.key)).setCell ⟨g,4,none⟩ (.int .i64 x.seq)).setCell ⟨g,5,none⟩ v).setCell ⟨g,6,none⟩ (.int .i64 x.cost)).setCell ⟨g,7,none⟩ (.bool x.far)
theorem ZrO {B0:Nat}{c0 c1 c2 c3 c4 c5 c6 c7:Value}(x:RecD)(v:Value)(hr:W.heap[B0]? = some (.cells #[c0,c1,c2,c3,c4,c5,c6,c7] 37)):
  (Zny W B0 x v).heap[B0]? = some (.cells (recC x v) 37):=by
 have k1:=YAU _ _ 0 _ _ (.int .i64 x.area) hr;have k2:=YAU _ _ 1 _ _ (.int .i64 x.kind) k1;have k3:=YAU _ _ 2 _ _ (.int .i64 x.owner) k2;have k4:=YAU _ _ 3 _ _ (.int .i64 x.key) k3;have k5:=YAU _ _ 4 _ _ (.int .i64 x.seq) k4;have k6:=YAU _ _ 5 _ _ v k5;have k7:=YAU _ _ 6 _ _ (.int .i64 x.cost) k6;have k8:=YAU _ _ 7 _ _ (.bool x.far) k7;simp only [YAq,YAs,YAu] at k8;unfold Zny recC;exact k8
theorem Zla (W:World)(g:Nat)(x:RecD)(v:Value):W.grownBy (Zny W g x v) (some g):=
 Zai (Zai (Zai (Zai (Zai (Zai (Zai (Zaw W g _ _) (Zaw _ g _ _)) (Zaw _ g _ _)) (Zaw _ g _ _)) (Zaw _ g _ _)) (Zaw _ g _ _)) (Zaw _ g _ _)) (Zaw _ g _ _)
theorem ZqG (l:List Nr):(flat nrE l).length=l.length*2:=ZaD Zjj l
theorem Zpc (W:World)(g base:Nat)(hg:g=W.heap.size)(hb:base<=W.heap.size):(W.alloc (.cells #[] 62)).ownsRow base 62 2 (.slice (some ⟨g,0,none⟩) 0 0) 0 (flat nrE []):=by
 subst hg;exact World.ownsRow_lit W #[] 0 hb (by unfold maxLen;omega) (by simp)
theorem Zoe (x:RecD)(v:Value)(base:Nat)(w:World)(ho:w.ownsRow base 62 2 v x.near.length (flat nrE x.near))(hn:x.near.length<=1048576):
  Calls Tryz.prog 60 #[.agg (recC x v)] w fun e w'=>∃ v',e=.returned (.agg (recC x v'))/\w'.ownsRow w.heap.size 62 2 v' x.near.length (flat nrE x.near)/\Below w.heap.size w w':=by
 obtain⟨va,vc,rfl⟩:=Zac ho;have OW:=hide ho;clear ho
 go_enter Tryz.func60,Tryz.ntmps60
 unfold recC
 go_wp2_with (first
  | (at_builtin;refine ZdL ZqG (by omega) Zmx (by omega) _ rfl _ _ 35 rfl (w.heap.size+2) 62 Tryz.underlying35 (nrV nr0) rfl Tryz.infoNr _ [] rfl ?own0 base _ x.near rfl (((OW.out.alloc _).alloc _).alloc _) (by simp;omega) (by simp) ?_))
 case own0=>
  exact Zpc _ _ _ (by simp) (by simp)
 intro v' w4 hown' hgrow;obtain⟨na,nc,rfl⟩:=Zac hown';simp only [Value.ownBlock] at hgrow;have hb4:Below w.heap.size w w4:=((((YAC w.heap.size w).alloc (by simp) _).alloc (by simp) _).alloc (by simp;omega) _).grown hgrow (by simp;omega) (fun k hk=>by simp at hk;omega);have q0:w4.heap[w.heap.size]? = some (.cells #[.int .i64 x.area,.int .i64 x.kind,.int .i64 x.owner,.int .i64 x.key,.int .i64 x.seq,.slice va x.near.length vc,.int .i64 x.cost,.bool x.far] 37):=by
  rw [hgrow.block w.heap.size (by simp;omega) (by simp;omega),YAH _ _ _ (by simp;omega),YAH _ _ _ (by simp),YAE]
 have q1:w4.heap[w.heap.size+1]? = some (.cells #[.int .i64 0,.int .i64 0,.int .i64 0,.int .i64 0,.int .i64 0,.slice none 0 0,.int .i64 0,.bool false] 37):=by
  rw [hgrow.block (w.heap.size+1) (by simp) (by simp),YAH _ _ _ (by simp)];have e:=YAE (w.alloc (.cells #[.int .i64 x.area,.int .i64 x.kind,.int .i64 x.owner,.int .i64 x.key,.int .i64 x.seq,.slice va x.near.length vc,.int .i64 x.cost,.bool x.far] 37)) (.cells #[.int .i64 0,.int .i64 0,.int .i64 0,.int .i64 0,.int .i64 0,.slice none 0 0,.int .i64 0,.bool false] 37);rw [show (w.alloc (.cells #[.int .i64 x.area,.int .i64 x.kind,.int .i64 x.owner,.int .i64 x.key,.int .i64 x.seq,.slice va x.near.length vc,.int .i64 x.cost,.bool x.far] 37)).heap.size=w.heap.size+1 by simp] at e;exact e
 have r5:=Zaa q0 5;have f0:=Zae q0;simp at r5;have q2:=YAU w4 w.heap.size 5 _ _ (.slice na x.near.length nc) q0;simp only [YAq,YAs,YAu] at q2;have q3:(w4.setCell ⟨w.heap.size,5,none⟩ (.slice na x.near.length nc)).heap[w.heap.size+1]? = some (.cells #[.int .i64 0,.int .i64 0,.int .i64 0,.int .i64 0,.int .i64 0,.slice none 0 0,.int .i64 0,.bool false] 37):=by
  rw [YAO w4 ⟨w.heap.size,5,none⟩ _ _ (by show w.heap.size+1≠w.heap.size;omega)];exact q1
 have y0:=Zaa q2 0;have y1:=Zaa q2 1;have y2:=Zaa q2 2;have y3:=Zaa q2 3;have y4:=Zaa q2 4;have y5:=Zaa q2 5;have y6:=Zaa q2 6;have y7:=Zaa q2 7;simp at y0 y1 y2 y3 y4 y5 y6 y7;have u0:=Zaa q3 0;have u1:=Zaa q3 1;have u2:=Zaa q3 2;have u3:=Zaa q3 3;have u4:=Zaa q3 4;have u5:=Zaa q3 5;have u6:=Zaa q3 6;have u7:=Zaa q3 7;simp at u0 u1 u2 u3 u4 u5 u6 u7;have fu:=Zae q3;have F:=ZrO x (.slice na x.near.length nc) q3;have hown2:=ZaG (j:=5) (u:=.slice na x.near.length nc) hown' (show w.heap.size<w.heap.size+2 by omega);have G8:=Zla (w4.setCell ⟨w.heap.size,5,none⟩ (.slice na x.near.length nc)) (w.heap.size+1) x (.slice na x.near.length nc);have hown3:=Zaf (b0:=w.heap.size) (hown2.kept G8 (by
  cases hv:(Value.slice na x.near.length nc).ownBlock with
  | none=>exact .inl rfl
  | some g=>exact .inr (fun e=>by have:=(hown2.lt g hv).1;simp at e;omega))) (by omega)
 have hb5:Below w.heap.size w (Zny (w4.setCell ⟨w.heap.size,5,none⟩ (.slice na x.near.length nc)) (w.heap.size+1) x (.slice na x.near.length nc)):=(hb4.setCell (p:=⟨w.heap.size,5,none⟩) (YA _) _).grown G8 (by have:=Zab q3;omega) (fun k hk=>by simp at hk;omega);have FF:=hide F;have H3:=hide hown3;have H5:=hide hb5;clear F hown3 hb5 hown2 G8 hb4 hown' hgrow q0 q1 q2 q3 OW
 go_wp2_with fail
 (try simp only [Exit.inBlock,Exit.then])
 refine bodyPost_ret (results_cell_row rfl _ _ (w.heap.size+1) 37 (recC _ _) (0,0) _ rfl FF.out Tryz.underlying37 rfl (by kernel_rfl)) rfl ?_;exact⟨_,rfl,H3.out,H5.out⟩
theorem ZjQ (ps:List RP):ps.Pairwise ZeH↔(ps.map (·.2)).Pairwise (fun a b:Value=>∀ k,a.ownBlock=some k->b.ownBlock≠some k):=by
 rw [YAm];exact Iff.rfl
theorem ZpW {ps:List RP}(h:ps.Pairwise ZeH){i:Nat}(hi:ps[i]? = some p)(hk:ps[k]? = some q)(hne:i≠k):ZeH p q:=by
 obtain⟨h1,e1⟩:=YAD.1 hi;obtain⟨h2,e2⟩:=YAD.1 hk;rw [YAa] at h;rcases Nat.lt_or_ge i k with hl | hl
 ·have:=h i k h1 h2 hl;rw [e1,e2] at this;exact this
 ·have:=h k i h2 h1 (by omega);rw [e1,e2] at this;exact fun j hj he=>this j he hj
theorem Zsg {ps:List RP}(hk:ps[k]? = some p)(h:q.2=p.2):(ps.set k q).map (·.2)=ps.map (·.2):=by
 apply List.ext_getElem?;intro i;by_cases e:i=k
 ·subst e;obtain⟨h1,e1⟩:=YAD.1 hk;rw [List.getElem?_map,List.getElem?_set_self h1,List.getElem?_map,hk];simp [h]
 ·simp [List.getElem?_set_ne (Ne.symm e)]
theorem RecsOwn.turn {W8:World}{lo hi g n cap:Nat}{xs:List RP}(h:RecsOwn W lo hi (.slice (some ⟨g,0,none⟩) n cap) xs)(hn:xs.length=n)(hk:xs[k]? = some p)(hq:q.2=p.2)
  (row:W8.ownsRow lo 37 8 (.slice (some ⟨g,0,none⟩) n cap) n (flat encP (xs.set k q))) (near:W8.ownsRow lo 62 2 q.2 q.1.near.length (flat nrE q.1.near))
  (hkeep:∀ j,j<W.heap.size->j≠g->some j≠p.2.ownBlock->W8.heap[j]? = W.heap[j]?):RecsOwn W8 lo hi (.slice (some ⟨g,0,none⟩) n cap) (xs.set k q) where
 row:=by rw [List.length_set,hn];exact row
 top:=h.top
 apart:=by rw [ZjQ,Zsg hk hq, <-ZjQ];exact h.apart
 nears:=by
  intro r hr;obtain⟨i,hi,e⟩:=List.getElem_of_mem hr;have hr2:(xs.set k q)[i]? = some r:=by rw [<-e];exact YAA hi
  by_cases ek:i=k
  ·subst ek;rw [List.getElem?_set_self (by simpa using hi)] at hr2;cases hr2;refine⟨near,?_⟩;rw [hq];exact (h.nears p (YAG hk)).2
  ·rw [List.getElem?_set_ne (Ne.symm ek)] at hr2;have ho:=h.nears r (YAG hr2);refine⟨Zal ho.1 (fun j hj=>?_),ho.2⟩;refine hkeep j (ho.1.lt j hj).2 ?_ ?_
   ·rintro rfl;obtain⟨cur,hh⟩:∃ cur,W.heap[j]? = some (.cells cur 37 (0,0)):=by
     rcases h.row.2 with ⟨h0,_⟩ | ⟨g',cap',cur',hv',_,hh',_⟩
     ·cases h0
     ·cases hv';exact⟨cur',hh'⟩
    rcases ho.1.2 with ⟨h0,_⟩ | ⟨g',cap',cur',hv',_,hh',_⟩
    ·rw [h0] at hj;simp [Value.ownBlock] at hj
    ·rw [hv'] at hj;simp [Value.ownBlock] at hj;subst hj;rw [hh] at hh';simp at hh'
   ·intro he;exact ZpW h.apart hr2 hk ek j hj he.symm
theorem Zar {base size n z:Nat}{e t:TypeId}{v:Value}{xs:List Value}{C:Array Value}{fr:Nat × Nat}(ho:W.ownsRow base e size v n xs)(h:W.heap[z]? = some (.cells C t fr))(hne:e≠t):some z≠v.ownBlock:=by
 intro eq;rcases ho.2 with ⟨h1,_⟩ | ⟨g',cap',cur',hv',_,hh',_⟩
 ·rw [h1] at eq;simp [Value.ownBlock] at eq
 ·rw [hv'] at eq;simp [Value.ownBlock] at eq;subst eq;rw [h] at hh';simp at hh';exact hne hh'.2.1.symm
def cmpK (a b c d:Int):Int:=if a=0 then (if b=0 then (if c=0 then d else c) else b) else a
theorem Zp7 (x y:RecD):decide (cmpK (cmpN x.area y.area) (cmpN x.kind y.kind) (cmpN x.owner y.owner) (cmpN x.key y.key)<0)=Zak x y:=by
 unfold cmpK Zak;by_cases h1:x.area=y.area
 ·rw [if_pos (Zba.2 h1)];by_cases h2:x.kind=y.kind
  ·rw [if_pos (Zba.2 h2)];by_cases h3:x.owner=y.owner
   ·rw [if_pos (Zba.2 h3)];simp [ZdO,h1,h2,h3]
   ·rw [if_neg (fun h=>h3 (Zba.1 h))];simp [ZdO,h1,h2,h3]
  ·rw [if_neg (fun h=>h2 (Zba.1 h))];simp [ZdO,h1,h2]
 ·rw [if_neg (fun h=>h1 (Zba.1 h))];simp [ZdO,h1]
theorem Zky (p q:Nat)(a b c d a' b' c' d':Int)(w:World)(h:ZeI w p a b c d)(h':ZeI w q a' b' c' d'):
  Calls Tryz.prog 135 #[.slice (some ⟨p,0,none⟩) 4 4,.slice (some ⟨q,0,none⟩) 4 4] w fun e w'=>e=.returned (.int .i64 (cmpK (cmpN a a') (cmpN b b') (cmpN c c') (cmpN d d')))/\w=w':=by
 obtain⟨⟨h0,h1,h2,h3⟩,_⟩:=h;obtain⟨⟨g0,g1,g2,g3⟩,_⟩:=h';have C0:=hide (Zbi a a');have C1:=hide (Zbi b b');have C2:=hide (Zbi c c');have C3:=hide (Zbi d d');generalize cmpN a a'=k0 at C0 |-;generalize cmpN b b'=k1 at C1 |-;generalize cmpN c c'=k2 at C2 |-;generalize cmpN d d'=k3 at C3 |-
 go_enter Tryz.func135,Tryz.ntmps135
 go_wp2;refine wp_loop_rounds 5 ?_;rw [rounds_succ]
 go_wp2_with fail
 refine (C0.out _).mono ?_;rintro e w1 ⟨rfl,rfl⟩;by_cases z0:k0=0
 case neg=>
  have hd:(k0 != 0)=true:=by simpa using z0
  have E0:=hide (show cmpK k0 k1 k2 k3=k0 by unfold cmpK;rw [if_neg z0]);clear z0;go_wp2;go_ret;exact⟨Zkx E0.out,rfl⟩
 subst z0;go_wp2;rw [rounds_succ]
 go_wp2_with fail
 refine (C1.out _).mono ?_;rintro e w1 ⟨rfl,rfl⟩;by_cases z1:k1=0
 case neg=>
  have hd:(k1 != 0)=true:=by simpa using z1
  have E0:=hide (show cmpK 0 k1 k2 k3=k1 by unfold cmpK;rw [if_pos rfl,if_neg z1]);clear z1;go_wp2;go_ret;exact⟨Zkx E0.out,rfl⟩
 subst z1;go_wp2;rw [rounds_succ]
 go_wp2_with fail
 refine (C2.out _).mono ?_;rintro e w1 ⟨rfl,rfl⟩;by_cases z2:k2=0
 case neg=>
  have hd:(k2 != 0)=true:=by simpa using z2
  have E0:=hide (show cmpK 0 0 k2 k3=k2 by unfold cmpK;rw [if_pos rfl,if_pos rfl,if_neg z2]);clear z2;go_wp2;go_ret;exact⟨Zkx E0.out,rfl⟩
 subst z2;go_wp2;rw [rounds_succ]
 go_wp2_with fail
 refine (C3.out _).mono ?_;rintro e w1 ⟨rfl,rfl⟩;by_cases z3:k3=0
 case neg=>
  have hd:(k3 != 0)=true:=by simpa using z3
  have E0:=hide (show cmpK 0 0 0 k3=k3 by unfold cmpK;rfl);clear z3;go_wp2;go_ret;exact⟨Zkx E0.out,rfl⟩
 subst z3;go_wp2;rw [rounds_succ];go_wp2;go_ret;exact⟨Zkx rfl,rfl⟩
theorem Zjn (a b c d a' b' c' d':Int)(w:World):Calls Tryz.prog 106 #[.agg #[.int .i64 a,.int .i64 b,.int .i64 c,.int .i64 d],.agg #[.int .i64 a',.int .i64 b',.int .i64 c',.int .i64 d']] w fun e w'=>e=.returned (.int .i64 (cmpK (cmpN a a') (cmpN b b') (cmpN c c') (cmpN d d')))/\Below w.heap.size w w':=by
 obtain⟨r,hr⟩:∃ r,r=cmpK (cmpN a a') (cmpN b b') (cmpN c c') (cmpN d d'):=⟨_,rfl⟩;obtain⟨w1,hw1⟩:∃ w1,w1=(w.alloc (.cells #[.int .i64 a,.int .i64 b,.int .i64 c,.int .i64 d] 149)).alloc (.cells #[.int .i64 a',.int .i64 b',.int .i64 c',.int .i64 d'] 149):=⟨_,rfl⟩;have B1:Below w.heap.size w w1:=by rw [hw1];exact ZaB _ _
 have p0:w1.heap[w.heap.size]? = some (.cells #[.int .i64 a,.int .i64 b,.int .i64 c,.int .i64 d] 149):=by rw [hw1,YAH _ _ _ (by simp),YAE]
 have q0:w1.heap[w.heap.size+1]? = some (.cells #[.int .i64 a',.int .i64 b',.int .i64 c',.int .i64 d'] 149):=by
  rw [hw1];have:=YAE (w.alloc (.cells #[.int .i64 a,.int .i64 b,.int .i64 c,.int .i64 d] 149)) (.cells #[.int .i64 a',.int .i64 b',.int .i64 c',.int .i64 d'] 149);simpa using this
 have kp:ZeI w1 w.heap.size a b c d:=⟨⟨Zaa p0 0,Zaa p0 1,Zaa p0 2,Zaa p0 3⟩,Zae p0 0,Zae p0 1,Zae p0 2,Zae p0 3⟩;have kq:ZeI w1 (w.heap.size+1) a' b' c' d':=⟨⟨Zaa q0 0,Zaa q0 1,Zaa q0 2,Zaa q0 3⟩,Zae q0 0,Zae q0 1,Zae q0 2,Zae q0 3⟩;have HC:=hide (fun W' (h:w1.heap=W'.heap)=>Zky w.heap.size (w.heap.size+1) a b c d a' b' c' d' W' (kp.same h) (kq.same h));rw [<-hr] at HC |-;clear kp kq p0 q0 hr
 go_enter Tryz.func106,Tryz.ntmps106
 go_wp2;rw [<-hw1];clear hw1
 go_region_held3 (fun W'=>w1.heap=W'.heap) (first | rfl | assumption | go_keep) (first | (go_at_call 135;refine (HC.out _ ?_).mono ?_;(first | rfl | assumption);rintro e w3 ⟨rfl,rfl⟩))
 go_wp2;go_ret;exact⟨rfl,B1.drew⟩
theorem Zni (v1:Value)(x:RecD)(w:World)(hl:x.near.length<=1048576)(hv:Zat w v1 x.near w.heap.size):
  Calls Tryz.prog 137 #[.agg (recC x v1)] w fun e w'=>e=.returned (.bool (ZaW x))/\Below w.heap.size w w':=by
 obtain⟨p1,c1,rfl⟩:=hv.shape;have HK:=hide (Zqw (.slice p1 x.near.length c1) x);obtain⟨R,hR⟩:∃ R,R=ZaW x:=⟨_,rfl⟩;rw [<-hR];unfold ZaW at hR;have H1:=hide (Za5 x.owner 1 6);have H2:=hide (Za5 x.seq 1 100000);obtain⟨q1,hq1⟩:∃ q,q=inB x.owner 1 6:=⟨_,rfl⟩;obtain⟨q2,hq2⟩:∃ q,q=inB x.seq 1 100000:=⟨_,rfl⟩;rw [<-hq1] at H1 hR;rw [<-hq2] at H2 hR;clear hq1 hq2;have B0:Below w.heap.size w (w.alloc (.cells (recC x (.slice p1 x.near.length c1)) 37)):=(YAC _ _).alloc (YA _) _;have hnew:=YAE w (.cells (recC x (.slice p1 x.near.length c1)) 37);by_cases hk1:x.kind=1
 ·rw [if_pos hk1] at hR;have hkv:ZeK x (.slice p1 x.near.length c1)=.tuple #[.iface 225 (.agg (recC x (.slice p1 x.near.length c1))),.bool true]:=by unfold ZeK;rw [if_pos hk1]
  rw [hkv] at HK;have HR:=hide hR;have HV:=hide hv;have NEW:=hide hnew;have HKEY:=hide (Zly (.slice p1 x.near.length c1) x);have HBODY:=hide (fun W (h:Below w.heap.size w W)=>ZjX (.slice p1 x.near.length c1) x W hl (hv.then h));obtain⟨q3,hq3⟩:∃ q,q=(inB x.area 0 2&&x.key==0):=⟨_,rfl⟩;obtain⟨q4,hq4⟩:∃ q,q=(Zbn x.owner x.near&&x.cost==0 && !x.far):=⟨_,rfl⟩;rw [<-hq3] at HKEY;rw [<-hq4] at HBODY;have HR2:=hide (show R=(q1&&q2&&q3&&q4) by rw [HR.out,hq3,hq4];simp only [Bool.and_assoc]);clear hR hkv hv hnew hq3 hq4 HR hk1;unfold recC at *
  go_enter Tryz.func137,Tryz.ntmps137
  go_wp2_with fail
  refine (HK.out _).mono ?_;rintro e w1 ⟨rfl,b1⟩;have hx1:w1.heap[w.heap.size]? = some (.cells #[.int .i64 x.area,.int .i64 x.kind,.int .i64 x.owner,.int .i64 x.key,.int .i64 x.seq,.slice p1 x.near.length c1,.int .i64 x.cost,.bool x.far] 37):=by rw [b1.block _ (by simp)];exact NEW.out
  have f2:=Zaa hx1 2;have f4:=Zaa hx1 4;simp at f2 f4;have B1:=B0.trans (b1.mono B0.size);clear hx1 b1
  go_wp2_with fail
  refine (H1.out _).mono ?_;rintro e w2 ⟨rfl,rfl⟩;cases q1
  ·go_wp2;go_ret;exact⟨Zah (by rw [HR2.out];rfl),B1⟩
  go_wp2_with fail
  refine (H2.out _).mono ?_;rintro e w2 ⟨rfl,rfl⟩;cases q2
  ·go_wp2;go_ret;exact⟨Zah (by rw [HR2.out];rfl),B1⟩
  go_wp2_with fail
  refine (HKEY.out _).mono ?_;rintro e w2 ⟨rfl,b2⟩;have B2:=B1.trans (b2.mono B1.size);clear b2;cases q3
  ·go_wp2;go_ret;exact⟨Zah (by rw [HR2.out];rfl),B2⟩
  go_wp2_with fail
  refine (HBODY.out _ B2).mono ?_;rintro e w3 ⟨rfl,b3⟩;have B3:=B2.trans (b3.mono B2.size);clear b3;go_wp2;go_ret;exact⟨Zah (by rw [HR2.out];rfl),B3⟩
 rw [if_neg hk1] at hR;by_cases hk2:x.kind=2
 ·rw [if_pos hk2] at hR;have hkv:ZeK x (.slice p1 x.near.length c1)=.tuple #[.iface 226 (.agg (recC x (.slice p1 x.near.length c1))),.bool true]:=by unfold ZeK;rw [if_neg hk1,if_pos hk2]
  rw [hkv] at HK;have HR:=hide hR;have HV:=hide hv;have NEW:=hide hnew;have HKEY:=hide (ZiM (.slice p1 x.near.length c1) x);have HBODY:=hide (fun W (h:Below w.heap.size w W)=>ZhJ (.slice p1 x.near.length c1) x W hl (hv.then h));obtain⟨q3,hq3⟩:∃ q,q=(inB x.area 0 2&&inB x.key 1 6):=⟨_,rfl⟩;obtain⟨q4,hq4⟩:∃ q,q=(x.near.length==0&&inB x.cost 0 60000 && !x.far):=⟨_,rfl⟩;rw [<-hq3] at HKEY;rw [<-hq4] at HBODY;have HR2:=hide (show R=(q1&&q2&&q3&&q4) by rw [HR.out,hq3,hq4];simp only [Bool.and_assoc]);clear hR hkv hv hnew hq3 hq4 HR hk1 hk2;unfold recC at *
  go_enter Tryz.func137,Tryz.ntmps137
  go_wp2_with fail
  refine (HK.out _).mono ?_;rintro e w1 ⟨rfl,b1⟩;have hx1:w1.heap[w.heap.size]? = some (.cells #[.int .i64 x.area,.int .i64 x.kind,.int .i64 x.owner,.int .i64 x.key,.int .i64 x.seq,.slice p1 x.near.length c1,.int .i64 x.cost,.bool x.far] 37):=by rw [b1.block _ (by simp)];exact NEW.out
  have f2:=Zaa hx1 2;have f4:=Zaa hx1 4;simp at f2 f4;have B1:=B0.trans (b1.mono B0.size);clear hx1 b1
  go_wp2_with fail
  refine (H1.out _).mono ?_;rintro e w2 ⟨rfl,rfl⟩;cases q1
  ·go_wp2;go_ret;exact⟨Zah (by rw [HR2.out];rfl),B1⟩
  go_wp2_with fail
  refine (H2.out _).mono ?_;rintro e w2 ⟨rfl,rfl⟩;cases q2
  ·go_wp2;go_ret;exact⟨Zah (by rw [HR2.out];rfl),B1⟩
  go_wp2_with fail
  refine (HKEY.out _).mono ?_;rintro e w2 ⟨rfl,b2⟩;have B2:=B1.trans (b2.mono B1.size);clear b2;cases q3
  ·go_wp2;go_ret;exact⟨Zah (by rw [HR2.out];rfl),B2⟩
  go_wp2_with fail
  refine (HBODY.out _ B2).mono ?_;rintro e w3 ⟨rfl,b3⟩;have B3:=B2.trans (b3.mono B2.size);clear b3;go_wp2;go_ret;exact⟨Zah (by rw [HR2.out];rfl),B3⟩
 rw [if_neg hk2] at hR;by_cases hk3:x.kind=3
 ·rw [if_pos hk3] at hR;have hkv:ZeK x (.slice p1 x.near.length c1)=.tuple #[.iface 227 (.agg (recC x (.slice p1 x.near.length c1))),.bool true]:=by unfold ZeK;rw [if_neg hk1,if_neg hk2,if_pos hk3]
  rw [hkv] at HK;have HR:=hide hR;have HV:=hide hv;have NEW:=hide hnew;have HKEY:=hide (ZkI (.slice p1 x.near.length c1) x);have HBODY:=hide (fun W (h:Below w.heap.size w W)=>ZiN (.slice p1 x.near.length c1) x W hl (hv.then h));obtain⟨q3,hq3⟩:∃ q,q=(x.area==9&&inB x.key 1 9):=⟨_,rfl⟩;obtain⟨q4,hq4⟩:∃ q,q=(x.near.length==0&&(inB x.cost 1 1000||x.cost==60000)):=⟨_,rfl⟩;rw [<-hq3] at HKEY;rw [<-hq4] at HBODY;have HR2:=hide (show R=(q1&&q2&&q3&&q4) by rw [HR.out,hq3,hq4];simp only [Bool.and_assoc]);clear hR hkv hv hnew hq3 hq4 HR hk1 hk2 hk3;unfold recC at *
  go_enter Tryz.func137,Tryz.ntmps137
  go_wp2_with fail
  refine (HK.out _).mono ?_;rintro e w1 ⟨rfl,b1⟩;have hx1:w1.heap[w.heap.size]? = some (.cells #[.int .i64 x.area,.int .i64 x.kind,.int .i64 x.owner,.int .i64 x.key,.int .i64 x.seq,.slice p1 x.near.length c1,.int .i64 x.cost,.bool x.far] 37):=by rw [b1.block _ (by simp)];exact NEW.out
  have f2:=Zaa hx1 2;have f4:=Zaa hx1 4;simp at f2 f4;have B1:=B0.trans (b1.mono B0.size);clear hx1 b1
  go_wp2_with fail
  refine (H1.out _).mono ?_;rintro e w2 ⟨rfl,rfl⟩;cases q1
  ·go_wp2;go_ret;exact⟨Zah (by rw [HR2.out];rfl),B1⟩
  go_wp2_with fail
  refine (H2.out _).mono ?_;rintro e w2 ⟨rfl,rfl⟩;cases q2
  ·go_wp2;go_ret;exact⟨Zah (by rw [HR2.out];rfl),B1⟩
  go_wp2_with fail
  refine (HKEY.out _).mono ?_;rintro e w2 ⟨rfl,b2⟩;have B2:=B1.trans (b2.mono B1.size);clear b2;cases q3
  ·go_wp2;go_ret;exact⟨Zah (by rw [HR2.out];rfl),B2⟩
  go_wp2_with fail
  refine (HBODY.out _ B2).mono ?_;rintro e w3 ⟨rfl,b3⟩;have B3:=B2.trans (b3.mono B2.size);clear b3;go_wp2;go_ret;exact⟨Zah (by rw [HR2.out];rfl),B3⟩
 rw [if_neg hk3] at hR;have hkv:ZeK x (.slice p1 x.near.length c1)=.tuple #[.nilIface,.bool false]:=by unfold ZeK;rw [if_neg hk1,if_neg hk2,if_neg hk3]
 rw [hkv] at HK;have hR2:R=false:=by rw [hR];simp
 have HR2:=hide hR2;clear hR hkv hv hnew hR2 H1 H2 hk1 hk2 hk3;unfold recC at *
 go_enter Tryz.func137,Tryz.ntmps137
 go_wp2_with fail
 refine (HK.out _).mono ?_;rintro e w1 ⟨rfl,b1⟩;have B1:=B0.trans (b1.mono B0.size);clear b1;go_wp2;go_ret;exact⟨Zah HR2.out,B1⟩
theorem Tryz.infoWay :(Tryz.prog.info? 108).map (fun i=>(i.zero,i.size,i.bytes))=some (some (.agg (wayC Zbl (.slice none 0 0))),3,40):=by kernel_rfl
def Zaj (ps:List WP):List WayD:=ps.map (·.1)
theorem ZcQ {ps:List WP}{i:Nat}{p:WP}(h:ps[i]? = some p):(Zaj ps)[i]? = some p.1:=by simp [Zaj,h]
def ZaP (n:Int)(l:Lk):Bool:=inB n 1 6&&inB l.a 1 n&&inB l.b 1 n&&decide (l.a<l.b)&&inB l.c 1 1000&&inB l.r 0 2
def ZbF (a b:Lk):Bool:=decide (a.a<b.a)||(a.a==b.a&&(decide (a.b<b.b)||(a.b==b.b&&decide (a.r<b.r))))
def ZbH (a b:Th):Bool:=decide (a.k<b.k)||(a.k==b.k&&decide (a.o<b.o))
theorem ZlJ (n:Int)(l:Lk)(w:World):Calls Tryz.prog 54 #[.int .i64 n,lkV l] w fun e w'=>e=.returned (.bool (ZaP n l))/\Below w.heap.size w w':=by
 obtain⟨a,b,c,r⟩:=l;unfold lkV ZaP;simp only [];generalize hq1:inB n 1 6=q1;generalize hq2:inB a 1 n=q2;generalize hq3:inB b 1 n=q3;generalize hq4:inB c 1 1000=q4;generalize hq5:inB r 0 2=q5;have h1:=ZbU n 1 6;have h2:=ZbU a 1 n;have h3:=ZbU b 1 n;have h4:=ZbU c 1 1000;have h5:=ZbU r 0 2;rw [hq1] at h1;rw [hq2] at h2;rw [hq3] at h3;rw [hq4] at h4;rw [hq5] at h5;have H1:=hide h1;have H2:=hide h2;have H3:=hide h3;have H4:=hide h4;have H5:=hide h5;clear h1 h2 h3 h4 h5 hq1 hq2 hq3 hq4 hq5;cases q1
 ·go_enter Tryz.func54,Tryz.ntmps54
  go_wp2_with fail
  refine (H1.out _).mono ?_;rintro e w1 ⟨rfl,rfl⟩;go_wp2;go_ret;exact⟨by simp,(YAC _ _).alloc (YA _) _⟩
 cases q2
 ·go_enter Tryz.func54,Tryz.ntmps54
  go_wp2_with fail
  refine (H1.out _).mono ?_;rintro e w1 ⟨rfl,rfl⟩
  go_wp2_with fail
  refine (H2.out _).mono ?_;rintro e w1 ⟨rfl,rfl⟩;go_wp2;go_ret;exact⟨by simp,(YAC _ _).alloc (YA _) _⟩
 cases q3
 ·go_enter Tryz.func54,Tryz.ntmps54
  go_wp2_with fail
  refine (H1.out _).mono ?_;rintro e w1 ⟨rfl,rfl⟩
  go_wp2_with fail
  refine (H2.out _).mono ?_;rintro e w1 ⟨rfl,rfl⟩
  go_wp2_with fail
  refine (H3.out _).mono ?_;rintro e w1 ⟨rfl,rfl⟩;go_wp2;go_ret;exact⟨by simp,(YAC _ _).alloc (YA _) _⟩
 by_cases hab:a<b
 ·cases q4
  ·go_enter Tryz.func54,Tryz.ntmps54
   go_wp2_with fail
   refine (H1.out _).mono ?_;rintro e w1 ⟨rfl,rfl⟩
   go_wp2_with fail
   refine (H2.out _).mono ?_;rintro e w1 ⟨rfl,rfl⟩
   go_wp2_with fail
   refine (H3.out _).mono ?_;rintro e w1 ⟨rfl,rfl⟩
   go_wp2_with fail
   refine (H4.out _).mono ?_;rintro e w1 ⟨rfl,rfl⟩;go_wp2;go_ret;exact⟨by simp,(YAC _ _).alloc (YA _) _⟩
  ·go_enter Tryz.func54,Tryz.ntmps54
   go_wp2_with fail
   refine (H1.out _).mono ?_;rintro e w1 ⟨rfl,rfl⟩
   go_wp2_with fail
   refine (H2.out _).mono ?_;rintro e w1 ⟨rfl,rfl⟩
   go_wp2_with fail
   refine (H3.out _).mono ?_;rintro e w1 ⟨rfl,rfl⟩
   go_wp2_with fail
   refine (H4.out _).mono ?_;rintro e w1 ⟨rfl,rfl⟩
   go_wp2_with fail
   refine (H5.out _).mono ?_;rintro e w1 ⟨rfl,rfl⟩;go_wp2;go_ret;exact⟨Zah (by rw [YAT hab];simp),(YAC _ _).alloc (YA _) _⟩
 ·go_enter Tryz.func54,Tryz.ntmps54
  go_wp2_with fail
  refine (H1.out _).mono ?_;rintro e w1 ⟨rfl,rfl⟩
  go_wp2_with fail
  refine (H2.out _).mono ?_;rintro e w1 ⟨rfl,rfl⟩
  go_wp2_with fail
  refine (H3.out _).mono ?_;rintro e w1 ⟨rfl,rfl⟩;go_wp2;go_ret;exact⟨Zah (by rw [YAe (show ¬a<b by omega)];simp),(YAC _ _).alloc (YA _) _⟩
theorem Zgj (l m:Lk)(w:World):Calls Tryz.prog 55 #[lkV l,lkV m] w fun e w'=>e=.returned (.bool (ZbF l m))/\Below w.heap.size w w':=by
 obtain⟨a,b,c,r⟩:=l;obtain⟨a',b',c',r'⟩:=m;unfold lkV
 go_enter Tryz.func55,Tryz.ntmps55
 go_wp2
 all_goals go_ret
 all_goals refine ⟨Zah ?_,ZaB _ _⟩
 all_goals (simp only [ZbF];grind)
theorem Zgk (l m:Th)(w:World):Calls Tryz.prog 56 #[thV l,thV m] w fun e w'=>e=.returned (.bool (ZbH l m))/\Below w.heap.size w w':=by
 obtain⟨a,b,c,r⟩:=l;obtain⟨a',b',c',r'⟩:=m;unfold thV
 go_enter Tryz.func56,Tryz.ntmps56
 go_wp2
 all_goals go_ret
 all_goals refine ⟨Zah ?_,ZaB _ _⟩
 all_goals (simp only [ZbH];grind)
def Zn9 (l:Lk):Value:=.agg #[.int .i64 l.a,.int .i64 l.b,.int .i64 l.c,.int .i64 l.r,.int .i64 l.b,.int .i64 l.a,.int .i64 l.c,.int .i64 l.r]
theorem ZiP (l:Lk)(w:World):Calls Tryz.prog 101 #[lkV l] w fun e w'=>e=.returned (Zn9 l)/\Below w.heap.size w w':=by
 obtain⟨a,b,c,r⟩:=l;unfold lkV Zn9
 go_enter Tryz.func101,Tryz.ntmps101
 go_wp2
 go_returns
 exact⟨rfl,ZeU _ _ _⟩
theorem Zhv (w:World)(x0 x1 x2 x3 x4 x5 x6 x7:Value):(Instr.index 141 (.agg #[x0,x1,x2,x3,x4,x5,x6,x7]) (.int .i64 0)).run Tryz.prog w=.ok (.agg #[x0,x1,x2,x3]) w:=by
 rfl
theorem Zhw (w:World)(x0 x1 x2 x3 x4 x5 x6 x7:Value):(Instr.index 141 (.agg #[x0,x1,x2,x3,x4,x5,x6,x7]) (.int .i64 1)).run Tryz.prog w=.ok (.agg #[x4,x5,x6,x7]) w:=by
 rfl
theorem ZmH (w:World)(a b c d a' b' c' d':Int):(binOp .eql 78 (.agg #[.int .i64 a,.int .i64 b,.int .i64 c,.int .i64 d]) (.agg #[.int .i64 a',.int .i64 b',.int .i64 c',.int .i64 d'])).run Tryz.prog w=.ok (.bool (decide (a=a'/\b=b'/\c=c'/\d=d'))) w:=by
 go_simp;by_cases h1:a=a' <;> by_cases h2:b=b' <;> by_cases h3:c=c' <;> by_cases h4:d=d' <;> simp [h1,h2,h3,h4]
theorem ZgQ {f t r la lb lc lr:Int}(h:la=f/\lb=t/\lr=r)(W:World):(binOp .eql 78 (.agg #[.int .i64 la,.int .i64 lb,.int .i64 lc,.int .i64 lr]) (.agg #[.int .i64 f,.int .i64 t,.int .i64 lc,.int .i64 r])).run Tryz.prog W=.ok (.bool true) W:=by
 rw [ZmH,YAT ⟨h.1,h.2.1,rfl,h.2.2⟩]
theorem Zjt {f t r la lb lc lr:Int}(h:¬(la=f/\lb=t/\lr=r))(W:World):(binOp .eql 78 (.agg #[.int .i64 la,.int .i64 lb,.int .i64 lc,.int .i64 lr]) (.agg #[.int .i64 f,.int .i64 t,.int .i64 lc,.int .i64 r])).run Tryz.prog W=.ok (.bool false) W:=by
 rw [ZmH,YAe (fun g=>h ⟨g.1,g.2.1,g.2.2.2⟩)]
theorem ZoA (n:Value)(v tv:Value)(ls:List Lk)(f t r:Int)(w:World)(hls:ls.length<=1048576)(hv:ZaK w v ls w.heap.size):
  Calls Tryz.prog 110 #[.agg #[n,v,tv],.int .i64 f,.int .i64 t,.int .i64 r] w fun e w'=>e=.returned (.int .i64 (ZcH ls f t r))/\Below w.heap.size w w':=by
 obtain⟨a,cap,rfl⟩:∃ a cap,v=.slice a ls.length cap:=by obtain ⟨a,cap,h,_⟩:=hv;exact⟨a,cap,h⟩
 have HV:=hide hv;clear hv
 go_enter Tryz.func110,Tryz.ntmps110
 go_wp2
 go_loopw [17] (fun i wr=>∃ k:Nat,k<=ls.length/\i=.int .i64 k/\(∀ j,j<k->∀ l,ls[j]? = some l->ZbD f t r l=false)/\Below w.heap.size w wr) (fun i _=>ls.length-(intOf i).toNat)
 case atStart=>exact ⟨0,by omega,rfl,by omega,(YAC _ _).alloc (YA _) _⟩
 case round=>
  obtain⟨k,hk,rfl,hno,hb⟩:=hrel;have HNO:=hide hno;clear hno;by_cases hlt:k<ls.length
  ·obtain ⟨l,hl⟩:∃ l,ls[k]? = some l:=⟨ls[k],YAA hlt⟩;obtain⟨b,off,cap',hve,hbb,c0,c1,c2,c3⟩:=HV.out.cells k l hl;cases hve;replace c0:=(hb.cell hbb).trans c0;replace c1:=(hb.cell hbb).trans c1;replace c2:=(hb.cell hbb).trans c2;replace c3:=(hb.cell hbb).trans c3;have HL:=hide hl;have hbo:=ZiP l;clear hl;obtain⟨la,lb,lc,lr⟩:=l;unfold Zn9 lkV at hbo;simp only [] at hbo;have HBO:=hide hbo;clear hbo
   go_wp2_with fail
   refine (HBO.out _).mono ?_;rintro e w1 ⟨rfl,b1⟩;have hp:w1.heap[wr.heap.size]? = some (.cells #[.int .i64 la,.int .i64 lb,.int .i64 lc,.int .i64 lr] 78):=by
    rw [b1.block _ (by simp;omega),YAH _ _ _ (by simp),YAE]
   have hq:w1.heap[wr.heap.size+1]? = some (.cells #[.int .i64 f,.int .i64 t,.int .i64 lc,.int .i64 r] 78):=by
    rw [b1.block _ (by simp)];have:=YAE (wr.alloc (.cells #[.int .i64 la,.int .i64 lb,.int .i64 lc,.int .i64 lr] 78)) (.cells #[.int .i64 f,.int .i64 t,.int .i64 lc,.int .i64 r] 78);simpa using this
   have hbr:=hb.size;have B1:Below w.heap.size w w1:=(hb.trans ((ZaB _ _).mono hb.size)).trans (b1.mono (by simp;omega));have HP:=hide hp;have HQ:=hide hq;clear hp hq b1 c0 c1 c2 c3 hb;obtain⟨z,hz⟩:∃ z,z=wr.heap.size:=⟨_,rfl⟩;rw [<-hz] at HP HQ hbr |-;clear hz wr;go_wp2
   go_loopw [29] (fun i wr=>∃ j:Nat,j<=2/\i=.int .i64 j/\(1<=j->¬(la=f/\lb=t/\lr=r))/\(2<=j->¬(lb=f/\la=t/\lr=r))/\Below w.heap.size w wr/\wr.heap[z]? = some (.cells #[.int .i64 la,.int .i64 lb,.int .i64 lc,.int .i64 lr] 78)/\wr.heap[z+1]? = some (.cells #[.int .i64 f,.int .i64 t,.int .i64 lc,.int .i64 r] 78)) (fun i _=>2-(intOf i).toNat)
   case atStart=>exact ⟨0,by omega,rfl,by omega,by omega,B1,HP.out,HQ.out⟩
   case round=>
    obtain⟨j,hj,rfl,hn1,hn2,hb,hp,hq⟩:=hrel;have HN1:=hide hn1;have HN2:=hide hn2;have p0:=Zaa hp 0;have p1:=Zaa hp 1;have p2:=Zaa hp 2;have p3:=Zaa hp 3;have q0:=Zaa hq 0;have q1:=Zaa hq 1;have q2:=Zaa hq 2;have q3:=Zaa hq 3;simp at p0 p1 p2 p3 q0 q1 q2 q3;have hz1:=Zab hq;have hz0:=Zab hp;have HP:=hide hp;have HQ:=hide hq;clear hn1 hn2 hp hq;obtain rfl | rfl | rfl:j=0\/j=1\/j=2:=by omega
    ·have i0:=fun W=>Zhv W (.int .i64 la) (.int .i64 lb) (.int .i64 lc) (.int .i64 lr) (.int .i64 lb) (.int .i64 la) (.int .i64 lc) (.int .i64 lr);by_cases h:la=f/\lb=t/\lr=r
     ·have e0:=ZgQ (lc:=lc) h;have hh:ZbD f t r ⟨la,lb,lc,lr⟩=true:=by simp [ZbD,h.1,h.2.1,h.2.2]
      have HH:=hide hh;clear hh h;go_wp2;go_ret;exact⟨Zff (ZiV HNO.out HL.out HH.out).symm,hb.alloc hb.size _⟩
     ·have e0:=Zjt (lc:=lc) h;have HH:=hide h;clear h;go_wp2;go_roundw
      case rel=>exact ⟨1,by omega,by go_num,fun _=>HH.out,by omega,hb.alloc hb.size _,by rw [YAH _ _ _ hz0];exact HP.out,by rw [YAH _ _ _ hz1];exact HQ.out⟩
      case measure=>simp [intOf]
    ·have i0:=fun W=>Zhw W (.int .i64 la) (.int .i64 lb) (.int .i64 lc) (.int .i64 lr) (.int .i64 lb) (.int .i64 la) (.int .i64 lc) (.int .i64 lr);by_cases h:lb=f/\la=t/\lr=r
     ·have e0:=ZgQ (lc:=lc) h;have hh:ZbD f t r ⟨la,lb,lc,lr⟩=true:=by simp [ZbD,h.1,h.2.1,h.2.2]
      have HH:=hide hh;clear hh h;go_wp2;go_ret;exact⟨Zff (ZiV HNO.out HL.out HH.out).symm,hb.alloc hb.size _⟩
     ·have e0:=Zjt (lc:=lc) h;have HH:=hide h;clear h;go_wp2;go_roundw
      case rel=>exact ⟨2,by omega,by go_num,fun _=>HN1.out (by omega),fun _=>HH.out,hb.alloc hb.size _,by rw [YAH _ _ _ hz0];exact HP.out,by rw [YAH _ _ _ hz1];exact HQ.out⟩
      case measure=>simp [intOf]
    ·have hh:ZbD f t r ⟨la,lb,lc,lr⟩=false:=by
      have m1:=HN1.out (by omega);have m2:=HN2.out (by omega);simp only [ZbD];grind
     have HH:=hide hh;clear hh;go_wp2;exact⟨⟨k+1,by omega,by go_num,Zg5 HNO.out HL.out HH.out,hb⟩,by simp [intOf];omega⟩
  ·have hk':k=ls.length:=by omega
   have HK:=hide hk';clear hk';go_wp2;go_ret;exact⟨Zff (Zj4 HNO.out HK.out).symm,hb⟩
theorem Zgm {bytes:Nat}(hbb:bytes<=100){P:Program}(w:World){ops:Array Oper}{rest:List Oper}{o:Oper}{a:Act}{Q:Exit->Act->World->Prop}(hgd:o.guard=none)(s x:Operand)(t:TypeId)
  (ho:o.op=.call { callee:=.builtin .append,args:=#[s,x],argTypes:=#[t,t] }) (base:Nat) (e:TypeId) (ht:P.underlying t=some (.slice e))
  (hinfo:(P.info? e).map (fun i=>(i.zero,i.size,i.bytes))=some (some (.int .i64 0),1,bytes))
  (v:Value) (l:List Int) (y1 y2:Int) (hs:a.eval s=v) (hown:w.ownsRow base e 1 v l.length (flat intE l))
  (ad:Addr) (c:Nat) (hx:a.eval x=.slice (some ad) 2 c) (hnews:∀ j u,([.int .i64 y1,.int .i64 y2]:List Value)[j]? = some u->w.cell? (ad.add j)=some u)
  (hl:l.length+2<=1000000000) (hbase:base<=w.heap.size)
  (h:∀ v' w' l',Hid (l'=l++[y1,y2])->w'.ownsRow base e 1 v' l'.length (flat intE l')->w.grownBy w' v.ownBlock->wpList P ops Q rest (a.put o.dst v') w'):wpList P ops Q (o::rest) a w:=by
 obtain⟨i0,hi,hz0,hz1,hz2⟩:=info_parts hinfo;refine wpList_append_own_at w hgd s x t ho base e i0 (.int .i64 0) 1 bytes ht hi hz0 hz1 hz2 rfl (by decide) v l.length (flat intE l) hs hown ad 2 c [.int .i64 y1,.int .i64 y2] hx rfl hnews (by simp [Value.oneCell']) (by unfold maxLen;omega) ?_ hbase ?_
 ·have:(l.length+2)*bytes<=1000000000*100:=Nat.mul_le_mul hl hbb;omega
 ·intro v' w' h1 h2 _ _;have e1:flat intE l++[.int .i64 y1,.int .i64 y2]=flat intE (l++[y1,y2]):=by rw [ZaC];simp [flat,intE]
  rw [e1] at h1;exact h v' w' (l++[y1,y2]) rfl (by simpa using h1) h2
end Go.Proofs.YtikloccefmofdaaGreat
