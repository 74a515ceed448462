/-
  RowsL CopyK RowsM PushK InstK WayK MarkG WaysK WaysL WaysM IntsK
-/
import Derived.Test.YtcimbiinljcifaaGreatLn6
import Derived.Laws.AppendOwnNone
import Derived.Test.YtcimbiinljcifaaGreatLn1
import Derived.Handy
namespace Go.Proofs.YtcimbiinljcifaaGreat
open Go.RowKit
set_option linter.unusedSimpArgs false
set_option linter.unusedVariables false
set_option maxRecDepth 100000
set_option maxHeartbeats 8000000
theorem Tryz.infoRec:(Tryz.prog.info? 40).map (fun i=>(i.zero,i.size,i.bytes))=some (some (.agg (recC Zbe (.slice none 0 0))),8,80):=by kernel_rfl
def fsts (ps:List RP):List RecD:=ps.map (·.1)
theorem ZbB {ps:List RP}{i:Nat}{p:RP}(h:ps[i]? = some p):(fsts ps)[i]? = some p.1:=by simp [fsts,h]
theorem ZiT (a:Nr):∀ u∈nrE a,u.oneCell'=true:=by
 intro u hu;simp [nrE] at hu
 rcases hu with rfl | rfl <;> rfl
theorem ZbG {α:Type}{enc:α->List Value}{sz bytes:Nat}(hlen:∀ l:List α,(flat enc l).length=l.length*sz)(hpos:0<sz)(hone:∀ a,∀ u∈enc a,u.oneCell'=true)(hbb:bytes<=100){P:Program}(w:World){ops:Array Oper}{rest:List Oper}{o:Oper}{a:Act}{Q:Exit->Act->World->Prop}(hgd:o.guard=none)(s x:Operand)(t:TypeId)
  (ho:o.op=.call { callee:=.builtin .append,args:=#[s,x],argTypes:=#[t,t] }) (base:Nat) (e:TypeId) (ht:P.underlying t=some (.slice e)) (zv:Value) (hzv:zv.cells.size=sz)
  (hinfo:(P.info? e).map (fun i=>(i.zero,i.size,i.bytes))=some (some zv,sz,bytes))
  (v:Value) (l:List α) (hs:a.eval s=v) (hown:w.ownsRow base e sz v l.length (flat enc l))
  (base2:Nat) (v2:Value) (l2:List α) (hx:a.eval x=v2) (hown2:w.ownsRow base2 e sz v2 l2.length (flat enc l2))
  (hl:l.length+l2.length<=1000000000) (hbase:base<=w.heap.size)
  (h:∀ v' w',w'.ownsRow base e sz v' (l++l2).length (flat enc (l++l2))->w.grownBy w' v.ownBlock->wpList P ops Q rest (a.put o.dst v') w'):wpList P ops Q (o::rest) a w:=by
 obtain⟨i0,hi,hz0,hz1,hz2⟩:=info_parts hinfo
 rcases hown2.2 with ⟨e1,e2⟩ | ⟨g,cap,cur,e1,_⟩
 ·have e3:l2=[]:=List.eq_nil_of_length_eq_zero e2
  subst e3;refine wpList_append_own_none hgd s x t ho base e i0 sz ht hi v l.length (flat enc l) hs hown (hx.trans e1) ?_
  exact h v w (by simpa using hown) (ZcJ w _)
 ·refine wpList_append_own w hgd s x t ho base e i0 zv sz bytes ht hi hz0 hz1 hz2 hzv hpos v l.length (flat enc l) hs hown ⟨g,0,none⟩ l2.length cap (flat enc l2) (hx.trans e1) (hlen l2) (hown2.cells (by rw [e1];rfl)) ?_ (by unfold maxLen;omega) ?_ hbase ?_
  ·intro u hu
   simp only [flat,List.mem_flatMap] at hu
   obtain⟨b,_,hb⟩:=hu;exact hone b u hb
  ·have:(l.length+l2.length)*bytes<=1000000000*100:=Nat.mul_le_mul hl hbb
   omega
  ·intro v' w' h1 h2 _
   have e1:flat enc l++flat enc l2=flat enc (l++l2):=by rw [ZaL]
   rw [e1] at h1;exact h v' w' (by simpa using h1) h2
abbrev Zii (W:World) (g:Nat) (x:RecD) (v:Value):World:=(((((((W.setCell ⟨g,0,none⟩ (.int .i64 x.area)).setCell ⟨g,1,none⟩ (.int .i64 x.kind)).setCell ⟨g,2,none⟩ (.int .i64 x.owner)).setCell ⟨g,3,none⟩ (.int .i64 x.key)).setCell ⟨g,4,none⟩ (.int .i64 x.seq)).setCell ⟨g,5,none⟩ v).setCell ⟨g,6,none⟩ (.int .i64 x.cost)).setCell ⟨g,7,none⟩ (.bool x.far)
theorem ZkY {W:World}{B0:Nat}{c0 c1 c2 c3 c4 c5 c6 c7:Value}(x:RecD)(v:Value)(hr:W.heap[B0]? = some (.cells #[c0,c1,c2,c3,c4,c5,c6,c7] 40)):
  (Zii W B0 x v).heap[B0]? = some (.cells (recC x v) 40):=by
 have k1:=heap_setCell_same _ _ 0 _ _ (.int .i64 x.area) hr;have k2:=heap_setCell_same _ _ 1 _ _ (.int .i64 x.kind) k1;have k3:=heap_setCell_same _ _ 2 _ _ (.int .i64 x.owner) k2;have k4:=heap_setCell_same _ _ 3 _ _ (.int .i64 x.key) k3;have k5:=heap_setCell_same _ _ 4 _ _ (.int .i64 x.seq) k4;have k6:=heap_setCell_same _ _ 5 _ _ v k5;have k7:=heap_setCell_same _ _ 6 _ _ (.int .i64 x.cost) k6;have k8:=heap_setCell_same _ _ 7 _ _ (.bool x.far) k7;simp only [List.setIfInBounds_toArray,List.set_cons_zero,List.set_cons_succ] at k8
 unfold Zii recC;exact k8
theorem ZgM (W:World)(g:Nat)(x:RecD)(v:Value):W.grownBy (Zii W g x v) (some g):=
 Zaj (Zaj (Zaj (Zaj (Zaj (Zaj (Zaj (Zag W g _ _) (Zag _ g _ _)) (Zag _ g _ _)) (Zag _ g _ _)) (Zag _ g _ _)) (Zag _ g _ _)) (Zag _ g _ _)) (Zag _ g _ _)
theorem ZiU (l:List Nr):(flat nrE l).length=l.length*2:=Zbt ZgS l
theorem Zkm (W:World)(g base:Nat)(hg:g=W.heap.size)(hb:base<=W.heap.size):(W.alloc (.cells #[] 98)).ownsRow base 98 2 (.slice (some ⟨g,0,none⟩) 0 0) 0 (flat nrE []):=by
 subst hg;exact World.ownsRow_lit W #[] 0 hb (by unfold maxLen;omega) (by simp)
theorem Zhh (x:RecD)(v:Value)(base:Nat)(w:World)(ho:w.ownsRow base 98 2 v x.near.length (flat nrE x.near))(hn:x.near.length<=1048576):
  Calls Tryz.prog 33 #[.agg (recC x v)] w fun e w'=>∃ v',e=.returned (.agg (recC x v'))/\w'.ownsRow w.heap.size 98 2 v' x.near.length (flat nrE x.near)/\Below w.heap.size w w':=by
 obtain⟨va,vc,rfl⟩:=Zac ho;have OW:=hide ho;clear ho
 go_enter Tryz.func33,Tryz.ntmps33
 unfold recC
 go_wp2_with (first
  | (at_builtin;refine ZbG ZiU (by omega) ZiT (by omega) _ rfl _ _ 38 rfl (w.heap.size+2) 98 Tryz.underlying38 (nrV nr0) rfl Tryz.infoNr _ [] rfl ?own0 base _ x.near rfl (((OW.out.alloc _).alloc _).alloc _) (by simp;omega) (by simp) ?_))
 case own0=>
  exact Zkm _ _ _ (by simp) (by simp)
 intro v' w4 hown' hgrow;obtain⟨na,nc,rfl⟩:=Zac hown';simp only [Value.ownBlock] at hgrow
 have hb4:Below w.heap.size w w4:=((((Below.refl w.heap.size w).alloc (by simp) _).alloc (by simp) _).alloc (by simp;omega) _).grown hgrow (by simp;omega) (fun k hk=>by simp at hk;omega)
 have q0:w4.heap[w.heap.size]? = some (.cells #[.int .i64 x.area,.int .i64 x.kind,.int .i64 x.owner,.int .i64 x.key,.int .i64 x.seq,.slice va x.near.length vc,.int .i64 x.cost,.bool x.far] 40):=by
  rw [hgrow.block w.heap.size (by simp;omega) (by simp;omega),Below.heap_alloc _ _ _ (by simp;omega),Below.heap_alloc _ _ _ (by simp),heap_alloc_new]
 have q1:w4.heap[w.heap.size+1]? = some (.cells #[.int .i64 0,.int .i64 0,.int .i64 0,.int .i64 0,.int .i64 0,.slice none 0 0,.int .i64 0,.bool false] 40):=by
  rw [hgrow.block (w.heap.size+1) (by simp) (by simp),Below.heap_alloc _ _ _ (by simp)]
  have e:=heap_alloc_new (w.alloc (.cells #[.int .i64 x.area,.int .i64 x.kind,.int .i64 x.owner,.int .i64 x.key,.int .i64 x.seq,.slice va x.near.length vc,.int .i64 x.cost,.bool x.far] 40)) (.cells #[.int .i64 0,.int .i64 0,.int .i64 0,.int .i64 0,.int .i64 0,.slice none 0 0,.int .i64 0,.bool false] 40);rw [show (w.alloc (.cells #[.int .i64 x.area,.int .i64 x.kind,.int .i64 x.owner,.int .i64 x.key,.int .i64 x.seq,.slice va x.near.length vc,.int .i64 x.cost,.bool x.far] 40)).heap.size=w.heap.size+1 by simp] at e
  exact e
 have r5:=Zaa q0 5;have f0:=Zae q0;simp at r5
 have q2:=heap_setCell_same w4 w.heap.size 5 _ _ (.slice na x.near.length nc) q0;simp only [List.setIfInBounds_toArray,List.set_cons_zero,List.set_cons_succ] at q2
 have q3:(w4.setCell ⟨w.heap.size,5,none⟩ (.slice na x.near.length nc)).heap[w.heap.size+1]? = some (.cells #[.int .i64 0,.int .i64 0,.int .i64 0,.int .i64 0,.int .i64 0,.slice none 0 0,.int .i64 0,.bool false] 40):=by
  rw [heap_setCell_other w4 ⟨w.heap.size,5,none⟩ _ _ (by show w.heap.size+1≠w.heap.size;omega)];exact q1
 have y0:=Zaa q2 0;have y1:=Zaa q2 1;have y2:=Zaa q2 2;have y3:=Zaa q2 3;have y4:=Zaa q2 4;have y5:=Zaa q2 5;have y6:=Zaa q2 6;have y7:=Zaa q2 7;simp at y0 y1 y2 y3 y4 y5 y6 y7
 have u0:=Zaa q3 0;have u1:=Zaa q3 1;have u2:=Zaa q3 2;have u3:=Zaa q3 3;have u4:=Zaa q3 4;have u5:=Zaa q3 5;have u6:=Zaa q3 6;have u7:=Zaa q3 7;simp at u0 u1 u2 u3 u4 u5 u6 u7
 have fu:=Zae q3;have F:=ZkY x (.slice na x.near.length nc) q3;have hown2:=Zau (j:=5) (u:=.slice na x.near.length nc) hown' (show w.heap.size<w.heap.size+2 by omega)
 have G8:=ZgM (w4.setCell ⟨w.heap.size,5,none⟩ (.slice na x.near.length nc)) (w.heap.size+1) x (.slice na x.near.length nc);have hown3:=Zal (b0:=w.heap.size) (hown2.kept G8 (by
  cases hv:(Value.slice na x.near.length nc).ownBlock with
  | none=>exact .inl rfl
  | some g=>exact .inr (fun e=>by have:=(hown2.lt g hv).1;simp at e;omega))) (by omega)
 have hb5:Below w.heap.size w (Zii (w4.setCell ⟨w.heap.size,5,none⟩ (.slice na x.near.length nc)) (w.heap.size+1) x (.slice na x.near.length nc)):=(hb4.setCell (p:=⟨w.heap.size,5,none⟩) (Nat.le_refl _) _).grown G8 (by have:=Zab q3;omega) (fun k hk=>by simp at hk;omega)
 have FF:=hide F;have H3:=hide hown3;have H5:=hide hb5;clear F hown3 hb5 hown2 G8 hb4 hown' hgrow q0 q1 q2 q3 OW
 go_wp2_with fail
 (try simp only [Exit.inBlock,Exit.then])
 refine bodyPost_ret (results_cell_row rfl _ _ (w.heap.size+1) 40 (recC _ _) (0,0) _ rfl FF.out Tryz.underlying40 rfl (by kernel_rfl)) rfl ?_
 exact⟨_,rfl,H3.out,H5.out⟩
theorem Zf6 (x:RecD)(v:Value)(base:Nat)(w:World)(ho:w.ownsRow base 98 2 v x.near.length (flat nrE x.near))(hn:x.near.length<=1048576):
  Calls Tryz.prog 68 #[.agg (recC x v)] w fun e w'=>∃ v',e=.returned (.agg (recC x v'))/\w'.ownsRow w.heap.size 98 2 v' x.near.length (flat nrE x.near)/\Below w.heap.size w w':=by
 obtain⟨va,vc,rfl⟩:=Zac ho;have OW:=hide ho;clear ho
 go_enter Tryz.func68,Tryz.ntmps68
 unfold recC
 go_wp2_with (first
  | (at_builtin;refine ZbG ZiU (by omega) ZiT (by omega) _ rfl _ _ 38 rfl (w.heap.size+2) 98 Tryz.underlying38 (nrV nr0) rfl Tryz.infoNr _ [] rfl ?own0 base _ x.near rfl ((OW.out.alloc _).alloc _) (by simp;omega) (by simp) ?_))
 case own0=>exact World.ownsRow_nil _ _ _ _
 intro v' w4 hown' hgrow;obtain⟨na,nc,rfl⟩:=Zac hown';simp only [Value.ownBlock] at hgrow
 have hb4:Below w.heap.size w w4:=(((Below.refl w.heap.size w).alloc (by simp) _).alloc (by simp) _).grown hgrow (by simp;omega) (fun k hk=>by simp at hk)
 have q0:w4.heap[w.heap.size]? = some (.cells #[.int .i64 x.area,.int .i64 x.kind,.int .i64 x.owner,.int .i64 x.key,.int .i64 x.seq,.slice va x.near.length vc,.int .i64 x.cost,.bool x.far] 40):=by
  rw [hgrow.block w.heap.size (by simp;omega) (by simp),Below.heap_alloc _ _ _ (by simp),heap_alloc_new]
 have q1:w4.heap[w.heap.size+1]? = some (.cells #[.int .i64 0,.int .i64 0,.int .i64 0,.int .i64 0,.int .i64 0,.slice none 0 0,.int .i64 0,.bool false] 40):=by
  rw [hgrow.block (w.heap.size+1) (by simp) (by simp)]
  have e:=heap_alloc_new (w.alloc (.cells #[.int .i64 x.area,.int .i64 x.kind,.int .i64 x.owner,.int .i64 x.key,.int .i64 x.seq,.slice va x.near.length vc,.int .i64 x.cost,.bool x.far] 40)) (.cells #[.int .i64 0,.int .i64 0,.int .i64 0,.int .i64 0,.int .i64 0,.slice none 0 0,.int .i64 0,.bool false] 40);rw [show (w.alloc (.cells #[.int .i64 x.area,.int .i64 x.kind,.int .i64 x.owner,.int .i64 x.key,.int .i64 x.seq,.slice va x.near.length vc,.int .i64 x.cost,.bool x.far] 40)).heap.size=w.heap.size+1 by simp] at e
  exact e
 have r5:=Zaa q0 5;have f0:=Zae q0;simp at r5
 have q2:=heap_setCell_same w4 w.heap.size 5 _ _ (.slice na x.near.length nc) q0;simp only [List.setIfInBounds_toArray,List.set_cons_zero,List.set_cons_succ] at q2
 have q3:(w4.setCell ⟨w.heap.size,5,none⟩ (.slice na x.near.length nc)).heap[w.heap.size+1]? = some (.cells #[.int .i64 0,.int .i64 0,.int .i64 0,.int .i64 0,.int .i64 0,.slice none 0 0,.int .i64 0,.bool false] 40):=by
  rw [heap_setCell_other w4 ⟨w.heap.size,5,none⟩ _ _ (by show w.heap.size+1≠w.heap.size;omega)];exact q1
 have y0:=Zaa q2 0;have y1:=Zaa q2 1;have y2:=Zaa q2 2;have y3:=Zaa q2 3;have y4:=Zaa q2 4;have y5:=Zaa q2 5;have y6:=Zaa q2 6;have y7:=Zaa q2 7;simp at y0 y1 y2 y3 y4 y5 y6 y7
 have u0:=Zaa q3 0;have u1:=Zaa q3 1;have u2:=Zaa q3 2;have u3:=Zaa q3 3;have u4:=Zaa q3 4;have u5:=Zaa q3 5;have u6:=Zaa q3 6;have u7:=Zaa q3 7;simp at u0 u1 u2 u3 u4 u5 u6 u7
 have fu:=Zae q3;have F:=ZkY x (.slice na x.near.length nc) q3;have hown2:=Zau (j:=5) (u:=.slice na x.near.length nc) hown' (show w.heap.size<w.heap.size+2 by omega)
 have G8:=ZgM (w4.setCell ⟨w.heap.size,5,none⟩ (.slice na x.near.length nc)) (w.heap.size+1) x (.slice na x.near.length nc);have hown3:=Zal (b0:=w.heap.size) (hown2.kept G8 (by
  cases hv:(Value.slice na x.near.length nc).ownBlock with
  | none=>exact .inl rfl
  | some g=>exact .inr (fun e=>by have:=(hown2.lt g hv).1;simp at e;omega))) (by omega)
 have hb5:Below w.heap.size w (Zii (w4.setCell ⟨w.heap.size,5,none⟩ (.slice na x.near.length nc)) (w.heap.size+1) x (.slice na x.near.length nc)):=(hb4.setCell (p:=⟨w.heap.size,5,none⟩) (Nat.le_refl _) _).grown G8 (by have:=Zab q3;omega) (fun k hk=>by simp at hk;omega)
 have FF:=hide F;have H3:=hide hown3;have H5:=hide hb5;clear F hown3 hb5 hown2 G8 hb4 hown' hgrow q0 q1 q2 q3 OW
 go_wp2_with fail
 (try simp only [Exit.inBlock,Exit.then])
 refine bodyPost_ret (results_cell_row rfl _ _ (w.heap.size+1) 40 (recC _ _) (0,0) _ rfl FF.out Tryz.underlying40 rfl (by kernel_rfl)) rfl ?_
 exact⟨_,rfl,H3.out,H5.out⟩
theorem Zg7 (ps:List RP):ps.Pairwise Zef↔(ps.map (·.2)).Pairwise (fun a b:Value=>∀ k,a.ownBlock=some k->b.ownBlock≠some k):=by
 rw [List.pairwise_map];exact Iff.rfl
theorem ZkQ {ps:List RP}(h:ps.Pairwise Zef){i k:Nat}{p q:RP}(hi:ps[i]? = some p)(hk:ps[k]? = some q)(hne:i≠k):Zef p q:=by
 obtain⟨h1,e1⟩:=List.getElem?_eq_some_iff.1 hi;obtain⟨h2,e2⟩:=List.getElem?_eq_some_iff.1 hk;rw [List.pairwise_iff_getElem] at h
 rcases Nat.lt_or_ge i k with hl | hl
 ·have:=h i k h1 h2 hl
  rw [e1,e2] at this;exact this
 ·have:=h k i h2 h1 (by omega)
  rw [e1,e2] at this;exact fun j hj he=>this j he hj
theorem Zmr {ps:List RP}{k:Nat}{p q:RP}(hk:ps[k]? = some p)(h:q.2=p.2):(ps.set k q).map (·.2)=ps.map (·.2):=by
 apply List.ext_getElem?
 intro i;by_cases e:i=k
 ·subst e
  obtain⟨h1,e1⟩:=List.getElem?_eq_some_iff.1 hk;rw [List.getElem?_map,List.getElem?_set_self h1,List.getElem?_map,hk];simp [h]
 ·simp [List.getElem?_set_ne (Ne.symm e)]
theorem RecsOwn.turn {W W8:World}{lo hi g n cap k:Nat}{xs:List RP}{p q:RP}(h:RecsOwn W lo hi (.slice (some ⟨g,0,none⟩) n cap) xs)(hn:xs.length=n)(hk:xs[k]? = some p)(hq:q.2=p.2)
  (row:W8.ownsRow lo 40 8 (.slice (some ⟨g,0,none⟩) n cap) n (flat encP (xs.set k q))) (near:W8.ownsRow lo 98 2 q.2 q.1.near.length (flat nrE q.1.near))
  (hkeep:∀ j,j<W.heap.size->j≠g->some j≠p.2.ownBlock->W8.heap[j]? = W.heap[j]?):RecsOwn W8 lo hi (.slice (some ⟨g,0,none⟩) n cap) (xs.set k q) where
 row:=by rw [List.length_set,hn];exact row
 top:=h.top
 apart:=by rw [Zg7,Zmr hk hq, <-Zg7];exact h.apart
 nears:=by
  intro r hr;obtain⟨i,hi,e⟩:=List.getElem_of_mem hr;have hr2:(xs.set k q)[i]? = some r:=by rw [<-e];exact List.getElem?_eq_getElem hi
  by_cases ek:i=k
  ·subst ek
   rw [List.getElem?_set_self (by simpa using hi)] at hr2
   cases hr2
   refine⟨near,?_⟩
   rw [hq];exact (h.nears p (List.mem_of_getElem? hk)).2
  ·rw [List.getElem?_set_ne (Ne.symm ek)] at hr2
   have ho:=h.nears r (List.mem_of_getElem? hr2);refine⟨Zam ho.1 (fun j hj=>?_),ho.2⟩
   refine hkeep j (ho.1.lt j hj).2 ?_ ?_
   ·rintro rfl
    obtain⟨cur,hh⟩:∃ cur,W.heap[j]? = some (.cells cur 40 (0,0)):=by
     rcases h.row.2 with ⟨h0,_⟩ | ⟨g',cap',cur',hv',_,hh',_⟩
     ·cases h0
     ·cases hv';exact⟨cur',hh'⟩
    rcases ho.1.2 with ⟨h0,_⟩ | ⟨g',cap',cur',hv',_,hh',_⟩
    ·rw [h0] at hj;simp [Value.ownBlock] at hj
    ·rw [hv'] at hj
     simp [Value.ownBlock] at hj
     subst hj;rw [hh] at hh';simp at hh'
   ·intro he
    exact ZkQ h.apart hr2 hk ek j hj he.symm
theorem Zax {W:World}{base size n z:Nat}{e t:TypeId}{v:Value}{xs:List Value}{C:Array Value}{fr:Nat × Nat}(ho:W.ownsRow base e size v n xs)(h:W.heap[z]? = some (.cells C t fr))(hne:e≠t):some z≠v.ownBlock:=by
 intro eq
 rcases ho.2 with ⟨h1,_⟩ | ⟨g',cap',cur',hv',_,hh',_⟩
 ·rw [h1] at eq;simp [Value.ownBlock] at eq
 ·rw [hv'] at eq
  simp [Value.ownBlock] at eq
  subst eq;rw [h] at hh';simp at hh'
  exact hne hh'.2.1.symm
theorem ZaN {α:Type}{enc:α->List Value}{sz bytes:Nat}(hlen:∀ a,(enc a).length=sz)(hpos:0<sz)(hbb:bytes<=100){P:Program}(w:World){ops:Array Oper}{rest:List Oper}{o:Oper}{a:Act}{Q:Exit->Act->World->Prop}(hgd:o.guard=none)(s x:Operand)(t:TypeId)
  (ho:o.op=.call { callee:=.builtin .append,args:=#[s,x],argTypes:=#[t,t] }) (base:Nat) (e:TypeId) (ht:P.underlying t=some (.slice e)) (zv:Value) (hzv:zv.cells.size=sz)
  (hinfo:(P.info? e).map (fun i=>(i.zero,i.size,i.bytes))=some (some zv,sz,bytes))
  (v:Value) (l:List α) (y:α) (hone:∀ u∈enc y,u.oneCell'=true) (hs:a.eval s=v) (hown:w.ownsRow base e sz v l.length (flat enc l))
  (ad:Addr) (c:Nat) (hx:a.eval x=.slice (some ad) 1 c) (hnews:∀ j u,(enc y)[j]? = some u->w.cell? (ad.add j)=some u)
  (hl:l.length+1<=1000000000) (hbase:base<=w.heap.size)
  (h:∀ v' w',w'.ownsRow base e sz v' (l++[y]).length (flat enc (l++[y]))->w.grownBy w' v.ownBlock->wpList P ops Q rest (a.put o.dst v') w'):wpList P ops Q (o::rest) a w:=by
 obtain⟨i0,hi,hz0,hz1,hz2⟩:=info_parts hinfo;refine wpList_append_own w hgd s x t ho base e i0 zv sz bytes ht hi hz0 hz1 hz2 hzv hpos v l.length (flat enc l) hs hown ad 1 c (enc y) hx (by rw [hlen];omega) hnews hone (by unfold maxLen;omega) ?_ hbase ?_
 ·have:(l.length+1)*bytes<=1000000000*100:=Nat.mul_le_mul hl hbb
  omega
 ·intro v' w' h1 h2 _
  have e1:flat enc l++enc y=flat enc (l++[y]):=by rw [ZaL];simp [flat]
  rw [e1] at h1;exact h v' w' (by simpa using h1) h2
theorem Zbm (x:RecD)(a:Option Addr)(n c:Nat):∀ u∈encP (x,.slice a n c),u.oneCell'=true:=by
 intro u hu;simp only [encP,List.mem_cons,List.not_mem_nil,or_false] at hu
 rcases hu with rfl | rfl | rfl | rfl | rfl | rfl | rfl | rfl <;> rfl
theorem Zcm {W:World}{lo lo2 hi n size2:Nat}{v:Value}{xs:List Value}{q:RP}(hq:Zat W lo hi q)(hr:W.ownsRow lo2 40 size2 v n xs)(j:Nat)(hj:q.2.ownBlock=some j):some j≠v.ownBlock:=by
 intro e
 rcases hr.2 with ⟨h0,_⟩ | ⟨g,cap,cur,hv,_,hh,_⟩
 ·rw [h0] at e;simp [Value.ownBlock] at e
 ·rw [hv] at e
  simp [Value.ownBlock] at e
  subst e;exact Zax hq.1 hh (by decide) hj.symm
theorem RecsOwn.push {W Wa W2:World}{lo:Nat}{v v':Value}{qs:List RP}{p:RP}(h:RecsOwn W lo W.heap.size v qs)(hb:Below W.heap.size W Wa)(hlo:lo<=W.heap.size)(hp:Zat Wa W.heap.size Wa.heap.size p)
  (row:W2.ownsRow lo 40 8 v' (qs.length+1) (flat encP (qs++[p]))) (hg:Wa.grownBy W2 v.ownBlock):RecsOwn W2 lo W2.heap.size v' (qs++[p]) where
 row:=by simpa using row
 top:=fun k hk=>(row.lt k hk).2
 apart:=Zg6 h.apart h.nears (fun k hk=>(hp.1.lt k hk).1)
 nears:=by
  have rowa:=Zah h.row hb (Nat.le_refl _);have key:∀ q,Zat Wa lo Wa.heap.size q->Zat W2 lo W2.heap.size q:=fun q hq=>
   ⟨Zam hq.1 (fun j hj=>hg.block j (hq.2 j hj) (Zcm hq rowa j hj)),fun k hk=>Nat.lt_of_lt_of_le (hq.2 k hk) hg.size⟩
  intro q hq
  rcases List.mem_append.1 hq with h1 | h1
  ·exact key q (((h.nears q h1).keep (W':=Wa) (fun j _ h2 _=>hb.block j h2)).wide (Nat.le_refl _) hb.size)
  ·have:q=p:=by simpa using h1
   subst this;exact key q (hp.wide hlo (Nat.le_refl _))
theorem RecsOwn.push2 {Wa W2:World}{lo hi:Nat}{v v':Value}{qs:List RP}{p:RP}(h:RecsOwn Wa lo hi v qs)(hhi:hi<=Wa.heap.size)(hlo:lo<=hi)(hp:Zat Wa hi Wa.heap.size p)
  (row:W2.ownsRow lo 40 8 v' (qs.length+1) (flat encP (qs++[p]))) (hg:Wa.grownBy W2 v.ownBlock):RecsOwn W2 lo W2.heap.size v' (qs++[p]) where
 row:=by simpa using row
 top:=fun k hk=>(row.lt k hk).2
 apart:=Zg6 h.apart h.nears (fun k hk=>(hp.1.lt k hk).1)
 nears:=by
  have key:∀ q,Zat Wa lo Wa.heap.size q->Zat W2 lo W2.heap.size q:=fun q hq=>
   ⟨Zam hq.1 (fun j hj=>hg.block j (hq.2 j hj) (Zcm hq h.row j hj)),fun k hk=>Nat.lt_of_lt_of_le (hq.2 k hk) hg.size⟩
  intro q hq
  rcases List.mem_append.1 hq with h1 | h1
  ·exact key q ((h.nears q h1).wide (Nat.le_refl _) hhi)
  ·have:q=p:=by simpa using h1
   subst this;exact key q (hp.wide hlo (Nat.le_refl _))
theorem RecsOwn.grownP {W W':World}{lo hi p:Nat}{v:Value}{ps:List RP}(h:RecsOwn W lo hi v ps)(hg:W.grownBy W' (some p))(hp:p<lo):RecsOwn W' lo hi v ps:=h.keep (fun k h1 _ h3=>hg.block k h3 (by simp;omega))
theorem Zce (W:World)(lo:Nat)(hb:lo<=W.heap.size):RecsOwn (W.alloc (.cells #[] 40)) lo (W.alloc (.cells #[] 40)).heap.size (.slice (some ⟨W.heap.size,0,none⟩) 0 0) [] where
 row:=World.ownsRow_lit W #[] 0 hb (by unfold maxLen;omega) (by simp)
 top:=by intro k hk;simp [Value.ownBlock] at hk;subst hk;simp
 nears:=by simp
 apart:=by simp
structure RecsIn (W:World) (hi:Nat) (v:Value) (ps:List RP):Prop where
 row:W.ownsRow 0 40 8 v ps.length (flat encP ps)
 top:∀ k,v.ownBlock=some k->k<hi
 nears:∀ p∈ps,Zat W 0 hi p
theorem RecsOwn.in {W:World}{lo hi:Nat}{v:Value}{ps:List RP}(h:RecsOwn W lo hi v ps):RecsIn W hi v ps:=⟨Zal h.row (Nat.zero_le _),h.top,fun p hp=>(h.nears p hp).wide (Nat.zero_le _) (Nat.le_refl _)⟩
theorem RecsIn.keep {W W':World}{hi:Nat}{v:Value}{ps:List RP}(h:RecsIn W hi v ps)(hk:∀ k,k<hi->k<W.heap.size->W'.heap[k]? = W.heap[k]?):RecsIn W' hi v ps where
 row:=Zam h.row (fun k e=>hk k (h.top k e) (h.row.lt k e).2)
 top:=h.top
 nears:=fun p hp=>(h.nears p hp).keep (fun k _ h2 h3=>hk k h2 h3)
theorem RecsIn.below {W W':World}{hi B:Nat}{v:Value}{ps:List RP}(h:RecsIn W hi v ps)(hb:Below B W W')(hB:hi<=B):RecsIn W' hi v ps:=h.keep (fun k h2 _=>hb.block k (by omega))
theorem RecsIn.wide {W:World}{hi hi':Nat}{v:Value}{ps:List RP}(h:RecsIn W hi v ps)(hh:hi<=hi'):RecsIn W hi' v ps:=⟨h.row,fun k e=>Nat.lt_of_lt_of_le (h.top k e) hh,fun p hp=>(h.nears p hp).wide (Nat.le_refl _) hh⟩
theorem RecsIn.at {W:World}{hi:Nat}{v:Value}{ps:List RP}(h:RecsIn W hi v ps):Zbs W v ps hi:=by
 refine⟨?_,fun p hp=>(h.nears p hp).at⟩
 have h1:=Zaq h.row;obtain⟨a,cap,hv,h2⟩:=h1;refine⟨a,cap,hv,?_⟩
 rcases h2 with h0 | ⟨b,off,ha,hb1,hx⟩
 ·exact .inl h0
 ·exact .inr ⟨b,off,ha,h.top b (by rw [hv,ha];rfl),hx⟩
theorem ZcA (v:Value)(ps:List RP)(hi:Nat)(w:World)(hv:RecsIn w hi v ps)(hhi:hi<=w.heap.size)(hn:tot ps<=1048576):
  Calls Tryz.prog 34 #[v] w fun e w'=>∃ x qs,e=.returned x/\fsts qs=fsts ps/\RecsOwn w' w.heap.size w'.heap.size x qs/\Below w.heap.size w w':=by
 have hnl:=Za3 ps;obtain⟨a1,c1,rfl⟩:=Zac hv.row;have HV:=hide hv;clear hv;have R0:=hide (Zce w w.heap.size (Nat.le_refl _));have B0:Below w.heap.size w (w.alloc (.cells #[] 40)):=(Below.refl _ _).alloc (Nat.le_refl _) _
 go_enter Tryz.func34,Tryz.ntmps34
 go_wp2
 generalize w.alloc (.cells #[] 40)=w0 at *
 go_loopw [4,3] (fun i o wr=>∃ (k:Nat) (qs:List RP) (u:Value),k<=ps.length/\i=.int .i64 k/\o=u/\fsts qs=fsts (ps.take k)/\RecsOwn wr w.heap.size wr.heap.size u qs/\Below w.heap.size w wr) (fun i _ _=>ps.length-(intOf i).toNat)
 case atStart=>exact ⟨0,[],_,by omega,rfl,rfl,by simp [fsts],R0.out,B0⟩
 case round=>
  obtain⟨k,qs,u,hk,rfl,rfl,hmap,hown,hnx⟩:=hrel;obtain⟨ua,uc,rfl⟩:=Zac hown.row;have hsz:=hnx.size;by_cases hlt:k<ps.length
  ·obtain ⟨p,hp⟩:∃ p,ps[k]? = some p:=⟨ps[k],List.getElem?_eq_getElem hlt⟩
   have hat:=HV.out.at;obtain⟨b,off,cap',hve,hbb,c0,c1,c2,c3,c4,c5,c6,c7,_⟩:=hat.cells k p hp;cases hve
   rw [<-hnx.cell (p:=⟨b,off+k*8,none⟩) (Nat.lt_of_lt_of_le hbb hhi)] at c0;rw [<-hnx.cell (p:=⟨b,off+k*8+1,none⟩) (Nat.lt_of_lt_of_le hbb hhi)] at c1;rw [<-hnx.cell (p:=⟨b,off+k*8+2,none⟩) (Nat.lt_of_lt_of_le hbb hhi)] at c2;rw [<-hnx.cell (p:=⟨b,off+k*8+3,none⟩) (Nat.lt_of_lt_of_le hbb hhi)] at c3;rw [<-hnx.cell (p:=⟨b,off+k*8+4,none⟩) (Nat.lt_of_lt_of_le hbb hhi)] at c4;rw [<-hnx.cell (p:=⟨b,off+k*8+5,none⟩) (Nat.lt_of_lt_of_le hbb hhi)] at c5;rw [<-hnx.cell (p:=⟨b,off+k*8+6,none⟩) (Nat.lt_of_lt_of_le hbb hhi)] at c6;rw [<-hnx.cell (p:=⟨b,off+k*8+7,none⟩) (Nat.lt_of_lt_of_le hbb hhi)] at c7;have hno:=(HV.out.nears p (List.mem_of_getElem? hp)).keep (W':=wr) (fun j _ h2 _=>hnx.block j (by omega))
   obtain⟨pa,pc,hpn⟩:=Zac hno.1;have HC:=Zhh p.1 p.2 0 wr hno.1 (by have:=Zc6 (List.mem_of_getElem? hp);omega)
   unfold recC at HC;rw [hpn] at c5 HC;have HCP:=hide HC;have HP:=hide hp;have HM:=hide hmap;have OW:=hide hown;have HQL:=hide (show qs.length<=1048576 by
    have h1:=congrArg List.length hmap;simp [fsts] at h1
    omega)
   clear hp hmap hown hno hpn HC hat;have hki:(0:Int)<=(k:Int):=by omega
   have hkj:(k:Int)<(ps.length:Int):=by omega
   go_wp2_with fail
   refine HCP.out.mono ?_
   rintro e w2 ⟨v1,rfl,hn2,b2⟩;obtain⟨n1a,n1c,rfl⟩:=Zac hn2;have b2s:=b2.size
   go_wp2_with (first
    | (at_builtin;refine ZaN ZaK (by omega) (by omega) _ rfl _ _ 29 rfl w.heap.size 40 Tryz.underlying29 (.agg (recC Zbe (.slice none 0 0))) rfl Tryz.infoRec _ qs (p.1,.slice n1a p.1.near.length n1c) (Zbm _ _ _ _) rfl ((Zah OW.out.row b2 (Nat.le_refl _)).alloc _) ⟨w2.heap.size,0,none⟩ 1 rfl (Zar (cs:=encP (p.1,.slice n1a p.1.near.length n1c))) (by have:=HQL.out;omega) (by simp;omega) ?_))
   intro v' w4 hown' hgrow;have ow4:=OW.out.push (p:=(p.1,.slice n1a p.1.near.length n1c)) (b2.alloc b2.size _) (by omega) (Zat.wide (Zat.keep ⟨hn2,fun k hk=>(hn2.lt k hk).2⟩ (fun j _ _ h3=>Below.heap_alloc _ _ _ h3)) (Nat.le_refl _) (by simp)) hown' hgrow
   obtain⟨va,vc,rfl⟩:=Zac hown';have B4:Below w.heap.size w w4:=((hnx.trans (b2.mono hsz)).alloc (by omega) _).grown hgrow (by simp;omega) (fun k hk=>(OW.out.row.lt k hk).1)
   have OW4:=hide ow4;clear ow4 hown' hgrow hn2
   go_wp2
   go_roundw
   case rel=>exact ⟨k+1,qs++[(p.1,.slice n1a p.1.near.length n1c)],_,by omega,by go_num,rfl,by rw [show fsts (ps.take (k+1))=fsts (ps.take k)++[p.1] from ZeQ HP.out, <-HM.out];simp [fsts],OW4.out,B4⟩
   case measure=>simp [intOf];omega
  ·have hkn:k=ps.length:=by omega
   have KN:=hide hkn;have OW:=hide hown;have HM:=hide hmap;clear hkn hown hmap
   go_wp2
   go_ret
   have h1:=HM.out;rw [KN.out,List.take_length] at h1
   first
    | exact ⟨_,qs,rfl,h1,OW.out,hnx⟩
    | exact ⟨_,rfl,qs,h1,OW.out,hnx⟩
structure WayD where
 to:Int
 cost:Int
 hops:List Int
 deriving DecidableEq
def wayC (x:WayD)(v:Value):Array Value:=#[.int .i64 x.to,.int .i64 x.cost,v]
def Zl7 (W:World)(v:Value)(x:WayD)(B:Nat):Prop:=∃ v1,v=.agg (wayC x v1)/\Za9 W v1 x.hops B
theorem Zl7.then {W W':World}{v:Value}{x:WayD}(h:Zl7 W v x W.heap.size)(hb:Below W.heap.size W W'):Zl7 W' v x W'.heap.size:=by
 obtain⟨v1,hv,h1⟩:=h;exact⟨v1,hv,h1.then hb⟩

abbrev WP:=WayD × Value
def encW (p:WP):List Value:=[.int .i64 p.1.to,.int .i64 p.1.cost,p.2]
def Zcu:WayD:=⟨0,0,[]⟩
theorem ZeM (p:WP):(encW p).length=3:=rfl
def Zcz (W:World)(v:Value)(ps:List WP)(B:Nat):Prop:=ZaP encW 3 W v ps B/\∀ p∈ps,Za9 W p.2 p.1.hops B
theorem Zcz.shape {W:World}{v:Value}{ps:List WP}{B:Nat}(h:Zcz W v ps B):∃ a cap,v=.slice a ps.length cap:=by
 obtain⟨⟨a,cap,h,_⟩,_⟩:=h;exact⟨a,cap,h⟩
theorem Zcz.later {W W':World}{v:Value}{ps:List WP}{B C:Nat}(h:Zcz W v ps B)(hb:Below C W W')(hBC:B<=C):Zcz W' v ps B:=
 ⟨ZaT.later h.1 hb hBC,fun p hp=>ZaT.later (h.2 p hp) hb hBC⟩
theorem Zcz.more {W:World}{v:Value}{ps:List WP}{B C:Nat}(h:Zcz W v ps B)(hBC:B<=C):Zcz W v ps C:=
 ⟨ZaT.more h.1 hBC,fun p hp=>ZaT.more (h.2 p hp) hBC⟩
theorem Zcz.then {W W':World}{v:Value}{ps:List WP}(h:Zcz W v ps W.heap.size)(hb:Below W.heap.size W W'):Zcz W' v ps W'.heap.size:=(h.later hb (Nat.le_refl _)).more hb.size
def Zcd (W:World)(lo hi:Nat)(p:WP):Prop:=W.ownsRow lo 3 1 p.2 p.1.hops.length (flat intE p.1.hops)/\∀ k,p.2.ownBlock=some k->k<hi
def ZfP (p q:WP):Prop:=∀ k,p.2.ownBlock=some k->q.2.ownBlock≠some k
structure WaysOwn (W:World) (lo hi:Nat) (v:Value) (ps:List WP):Prop where
 row:W.ownsRow lo 183 3 v ps.length (flat encW ps)
 top:∀ k,v.ownBlock=some k->k<hi
 nears:∀ p∈ps,Zcd W lo hi p
 apart:ps.Pairwise ZfP
theorem Zcd.keep {W W':World}{lo hi:Nat}{p:WP}(h:Zcd W lo hi p)(hk:∀ k,lo<=k->k<hi->k<W.heap.size->W'.heap[k]? = W.heap[k]?):Zcd W' lo hi p:=
 ⟨Zam h.1 (fun k e=>hk k (h.1.lt k e).1 (h.2 k e) (h.1.lt k e).2),h.2⟩
theorem Zcd.wide {W:World}{lo hi lo' hi':Nat}{p:WP}(h:Zcd W lo hi p)(hl:lo'<=lo)(hh:hi<=hi'):Zcd W lo' hi' p:=
 ⟨Zal h.1 hl,fun k e=>Nat.lt_of_lt_of_le (h.2 k e) hh⟩
theorem Zcd.at {W:World}{lo hi:Nat}{p:WP}(h:Zcd W lo hi p):Za9 W p.2 p.1.hops hi:=by
 have h1:=Zaq h.1;obtain⟨a,cap,hv,h2⟩:=h1;refine⟨a,cap,hv,?_⟩
 rcases h2 with h0 | ⟨b,off,ha,hb1,hx⟩
 ·exact .inl h0
 ·exact .inr ⟨b,off,ha,h.2 b (by rw [hv,ha];rfl),hx⟩
theorem WaysOwn.keep {W W':World}{lo hi:Nat}{v:Value}{ps:List WP}(h:WaysOwn W lo hi v ps)(hk:∀ k,lo<=k->k<hi->k<W.heap.size->W'.heap[k]? = W.heap[k]?):WaysOwn W' lo hi v ps where
 row:=Zam h.row (fun k e=>hk k (h.row.lt k e).1 (h.top k e) (h.row.lt k e).2)
 top:=h.top
 nears:=fun p hp=>(h.nears p hp).keep hk
 apart:=h.apart
theorem WaysOwn.below {W W':World}{lo hi B:Nat}{v:Value}{ps:List WP}(h:WaysOwn W lo hi v ps)(hb:Below B W W')(hB:hi<=B):WaysOwn W' lo hi v ps:=h.keep (fun k _ h2 _=>hb.block k (by omega))
theorem WaysOwn.wide {W:World}{lo hi lo' hi':Nat}{v:Value}{ps:List WP}(h:WaysOwn W lo hi v ps)(hl:lo'<=lo)(hh:hi<=hi'):WaysOwn W lo' hi' v ps where
 row:=Zal h.row hl
 top:=fun k e=>Nat.lt_of_lt_of_le (h.top k e) hh
 nears:=fun p hp=>(h.nears p hp).wide hl hh
 apart:=h.apart
theorem WaysOwn.at {W:World}{lo hi:Nat}{v:Value}{ps:List WP}(h:WaysOwn W lo hi v ps):Zcz W v ps hi:=by
 refine⟨?_,fun p hp=>(h.nears p hp).at⟩
 have h1:=Zaq h.row;obtain⟨a,cap,hv,h2⟩:=h1;refine⟨a,cap,hv,?_⟩
 rcases h2 with h0 | ⟨b,off,ha,hb1,hx⟩
 ·exact .inl h0
 ·exact .inr ⟨b,off,ha,h.top b (by rw [hv,ha];rfl),hx⟩
theorem WaysOwn.frame {W W':World}{lo hi l2 h2:Nat}{v:Value}{ps:List WP}(h:WaysOwn W lo hi v ps)(hb:Frame l2 h2 W W')(hB:hi<=l2\/h2<=lo):WaysOwn W' lo hi v ps:=h.keep (fun k h1 h2 h3=>hb.block k h3 (by omega))
theorem Zi8 {W:World}{lo hi:Nat}{ps:List WP}{p:WP}(h:ps.Pairwise ZfP)(hn:∀ q∈ps,Zcd W lo hi q)(hp:∀ k,p.2.ownBlock=some k->hi<=k):(ps++[p]).Pairwise ZfP:=by
 rw [List.pairwise_append];refine⟨h,by simp,?_⟩
 intro a ha b hb;have:b=p:=by simpa using hb
 subst this;intro k hk he;have h1:=(hn a ha).2 k hk;have h2:=hp k he;omega
def totW (ps:List WP):Nat:=(ps.map (fun p=>1+p.1.hops.length)).sum
theorem ZfF (p:WP)(ps:List WP):totW (p::ps)=1+p.1.hops.length+totW ps:=by simp [totW]
theorem ZlN (ps:List WP):ps.length<=totW ps:=by
 induction ps with
 | nil=>simp [totW]
 | cons p ps ih=>rw [ZfF,List.length_cons];omega
theorem ZlO {ps:List WP}{p:WP}(h:p∈ps):p.1.hops.length<=totW ps:=by
 induction ps with
 | nil=>simp at h
 | cons q ps ih=>
  rw [ZfF]
  rcases List.mem_cons.1 h with rfl | h1
  ·omega
  ·have:=ih h1;omega
theorem Zcz.cells {W:World}{v:Value}{ps:List WP}{B:Nat}(h:Zcz W v ps B)(i:Nat)(p:WP)(hp:ps[i]? = some p):
  ∃ b off cap,v=.slice (some ⟨b,off,none⟩) ps.length cap/\b<B/\W.cell? ⟨b,off+i*3,none⟩=some (.int .i64 p.1.to)/\W.cell? ⟨b,off+i*3+1,none⟩=some (.int .i64 p.1.cost)/\W.cell? ⟨b,off+i*3+2,none⟩=some p.2/\Za9 W p.2 p.1.hops B:=by
 obtain⟨b,off,cap,hv,hb,hc⟩:=ZaP.cell h.1 ZeM i p hp;exact⟨b,off,cap,hv,hb,hc 0 _ rfl,hc 1 _ rfl,hc 2 _ rfl,h.2 p (List.mem_of_getElem? hp)⟩
theorem Tryz.infoWay:(Tryz.prog.info? 183).map (fun i=>(i.zero,i.size,i.bytes))=some (some (.agg (wayC Zcu (.slice none 0 0))),3,40):=by kernel_rfl
def ZaH (ps:List WP):List WayD:=ps.map (·.1)
theorem Zk0 {ps:List WP}{i:Nat}{p:WP}(h:ps[i]? = some p):(ZaH ps)[i]? = some p.1:=by simp [ZaH,h]
theorem ZfR (ps:List WP):ps.Pairwise ZfP↔(ps.map (·.2)).Pairwise (fun a b:Value=>∀ k,a.ownBlock=some k->b.ownBlock≠some k):=by
 rw [List.pairwise_map];exact Iff.rfl
theorem ZjO {ps:List WP}(h:ps.Pairwise ZfP){i k:Nat}{p q:WP}(hi:ps[i]? = some p)(hk:ps[k]? = some q)(hne:i≠k):ZfP p q:=by
 obtain⟨h1,e1⟩:=List.getElem?_eq_some_iff.1 hi;obtain⟨h2,e2⟩:=List.getElem?_eq_some_iff.1 hk;rw [List.pairwise_iff_getElem] at h
 rcases Nat.lt_or_ge i k with hl | hl
 ·have:=h i k h1 h2 hl
  rw [e1,e2] at this;exact this
 ·have:=h k i h2 h1 (by omega)
  rw [e1,e2] at this;exact fun j hj he=>this j he hj
theorem ZlH {ps:List WP}{k:Nat}{p q:WP}(hk:ps[k]? = some p)(h:q.2=p.2):(ps.set k q).map (·.2)=ps.map (·.2):=by
 apply List.ext_getElem?
 intro i;by_cases e:i=k
 ·subst e
  obtain⟨h1,e1⟩:=List.getElem?_eq_some_iff.1 hk;rw [List.getElem?_map,List.getElem?_set_self h1,List.getElem?_map,hk];simp [h]
 ·simp [List.getElem?_set_ne (Ne.symm e)]
theorem WaysOwn.turn {W W8:World}{lo hi g n cap k:Nat}{xs:List WP}{p q:WP}(h:WaysOwn W lo hi (.slice (some ⟨g,0,none⟩) n cap) xs)(hn:xs.length=n)(hk:xs[k]? = some p)(hq:q.2=p.2)
  (row:W8.ownsRow lo 183 3 (.slice (some ⟨g,0,none⟩) n cap) n (flat encW (xs.set k q))) (near:W8.ownsRow lo 3 1 q.2 q.1.hops.length (flat intE q.1.hops))
  (hkeep:∀ j,j<W.heap.size->j≠g->some j≠p.2.ownBlock->W8.heap[j]? = W.heap[j]?):WaysOwn W8 lo hi (.slice (some ⟨g,0,none⟩) n cap) (xs.set k q) where
 row:=by rw [List.length_set,hn];exact row
 top:=h.top
 apart:=by rw [ZfR,ZlH hk hq, <-ZfR];exact h.apart
 nears:=by
  intro r hr;obtain⟨i,hi,e⟩:=List.getElem_of_mem hr;have hr2:(xs.set k q)[i]? = some r:=by rw [<-e];exact List.getElem?_eq_getElem hi
  by_cases ek:i=k
  ·subst ek
   rw [List.getElem?_set_self (by simpa using hi)] at hr2
   cases hr2
   refine⟨near,?_⟩
   rw [hq];exact (h.nears p (List.mem_of_getElem? hk)).2
  ·rw [List.getElem?_set_ne (Ne.symm ek)] at hr2
   have ho:=h.nears r (List.mem_of_getElem? hr2);refine⟨Zam ho.1 (fun j hj=>?_),ho.2⟩
   refine hkeep j (ho.1.lt j hj).2 ?_ ?_
   ·rintro rfl
    obtain⟨cur,hh⟩:∃ cur,W.heap[j]? = some (.cells cur 183 (0,0)):=by
     rcases h.row.2 with ⟨h0,_⟩ | ⟨g',cap',cur',hv',_,hh',_⟩
     ·cases h0
     ·cases hv';exact⟨cur',hh'⟩
    rcases ho.1.2 with ⟨h0,_⟩ | ⟨g',cap',cur',hv',_,hh',_⟩
    ·rw [h0] at hj;simp [Value.ownBlock] at hj
    ·rw [hv'] at hj
     simp [Value.ownBlock] at hj
     subst hj;rw [hh] at hh';simp at hh'
   ·intro he
    exact ZjO h.apart hr2 hk ek j hj he.symm
structure IntsOwn (W:World) (lo hi:Nat) (v:Value) (l:List Int):Prop where
 row:W.ownsRow lo 3 1 v l.length (flat intE l)
 top:∀ k,v.ownBlock=some k->k<hi
theorem IntsOwn.keep {W W':World}{lo hi:Nat}{v:Value}{l:List Int}(h:IntsOwn W lo hi v l)(hk:∀ k,lo<=k->k<hi->k<W.heap.size->W'.heap[k]? = W.heap[k]?):IntsOwn W' lo hi v l:=
 ⟨Zam h.row (fun k e=>hk k (h.row.lt k e).1 (h.top k e) (h.row.lt k e).2),h.top⟩
theorem IntsOwn.below {W W':World}{lo hi B:Nat}{v:Value}{l:List Int}(h:IntsOwn W lo hi v l)(hb:Below B W W')(hB:hi<=B):IntsOwn W' lo hi v l:=h.keep (fun k _ h2 _=>hb.block k (by omega))
theorem IntsOwn.frame {W W':World}{lo hi l2 h2:Nat}{v:Value}{l:List Int}(h:IntsOwn W lo hi v l)(hb:Frame l2 h2 W W')(hB:hi<=l2\/h2<=lo):IntsOwn W' lo hi v l:=h.keep (fun k h1 h2 h3=>hb.block k h3 (by omega))
theorem IntsOwn.wide {W:World}{lo hi lo' hi':Nat}{v:Value}{l:List Int}(h:IntsOwn W lo hi v l)(hl:lo'<=lo)(hh:hi<=hi'):IntsOwn W lo' hi' v l:=⟨Zal h.row hl,fun k e=>Nat.lt_of_lt_of_le (h.top k e) hh⟩
theorem IntsOwn.at {W:World}{lo hi:Nat}{v:Value}{l:List Int}(h:IntsOwn W lo hi v l):Za9 W v l hi:=by
 obtain⟨a,cap,hv,h2⟩:=Zaq h.row;refine⟨a,cap,hv,?_⟩
 rcases h2 with h0 | ⟨b,off,ha,hb1,hx⟩
 ·exact .inl h0
 ·exact .inr ⟨b,off,ha,h.top b (by rw [hv,ha];rfl),hx⟩
theorem IntsOwn.of {W:World}{lo:Nat}{v:Value}{l:List Int}(h:W.ownsRow lo 3 1 v l.length (flat intE l)):IntsOwn W lo W.heap.size v l:=⟨h,fun k e=>(h.lt k e).2⟩
end Go.Proofs.YtcimbiinljcifaaGreat
