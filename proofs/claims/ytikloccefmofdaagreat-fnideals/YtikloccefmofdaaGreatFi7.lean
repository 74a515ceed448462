/-
  Parts.
-/
import Derived.Test.YtikloccefmofdaaGreatFi6
namespace Go.Proofs.YtikloccefmofdaaGreat
open Go.RowKit
set_option linter.unusedSimpArgs false
set_option linter.unusedVariables false
set_option maxRecDepth 100000
set_option maxHeartbeats 8000000
variable {k lo n:Nat}{v:Value}{p q:WP}{W:World}
theorem ZaL {α:Type}{enc:α->List Value}{sz bytes:Nat}(hlen:∀ a,(enc a).length=sz)(hpos:0<sz)(hbb:bytes<=100){P:Program}(w:World){ops:Array Oper}{rest:List Oper}{o:Oper}{a:Act}{Q:Exit->Act->World->Prop}(hgd:o.guard=none)(s x:Operand)(t:TypeId)
  (ho:o.op=.call { callee:=.builtin .append,args:=#[s,x],argTypes:=#[t,t] }) (base:Nat) (e:TypeId) (ht:P.underlying t=some (.slice e)) (zv:Value) (hzv:zv.cells.size=sz)
  (hinfo:(P.info? e).map (fun i=>(i.zero,i.size,i.bytes))=some (some zv,sz,bytes))
  (v:Value) (l:List α) (y:α) (hone:∀ u∈enc y,u.oneCell'=true) (hs:a.eval s=v) (hown:w.ownsRow base e sz v l.length (flat enc l))
  (ad:Addr) (c:Nat) (hx:a.eval x=.slice (some ad) 1 c) (hnews:∀ j u,(enc y)[j]? = some u->w.cell? (ad.add j)=some u)
  (hl:l.length+1<=1000000000) (hbase:base<=w.heap.size)
  (h:∀ v' w',w'.ownsRow base e sz v' (l++[y]).length (flat enc (l++[y]))->w.grownBy w' v.ownBlock->wpList P ops Q rest (a.put o.dst v') w'):wpList P ops Q (o::rest) a w:=by
 obtain⟨i0,hi,hz0,hz1,hz2⟩:=info_parts hinfo;refine wpList_append_own w hgd s x t ho base e i0 zv sz bytes ht hi hz0 hz1 hz2 hzv hpos v l.length (flat enc l) hs hown ad 1 c (enc y) hx (by rw [hlen];omega) hnews hone (by unfold maxLen;omega) ?_ hbase ?_
 ·have:(l.length+1)*bytes<=1000000000*100:=Nat.mul_le_mul hl hbb;omega
 ·intro v' w' h1 h2 _;have e1:flat enc l++enc y=flat enc (l++[y]):=by rw [ZaC];simp [flat]
  rw [e1] at h1;exact h v' w' (by simpa using h1) h2
theorem ZbY (x:RecD)(a:Option Addr)(n c:Nat):∀ u∈encP (x,.slice a n c),u.oneCell'=true:=by
 intro u hu;simp only [encP,YAb,List.not_mem_nil,or_false] at hu;rcases hu with rfl | rfl | rfl | rfl | rfl | rfl | rfl | rfl <;> rfl
theorem Zc4 {lo2 hi size2:Nat}{xs:List Value}{q:RP}(hq:ZaF W lo hi q)(hr:W.ownsRow lo2 37 size2 v n xs)(j:Nat)(hj:q.2.ownBlock=some j):some j≠v.ownBlock:=by
 intro e;rcases hr.2 with ⟨h0,_⟩ | ⟨g,cap,cur,hv,_,hh,_⟩
 ·rw [h0] at e;simp [Value.ownBlock] at e
 ·rw [hv] at e;simp [Value.ownBlock] at e;subst e;exact Zar hq.1 hh (by decide) hj.symm
theorem RecsOwn.push {Wa W2:World}{v':Value}{qs:List RP}{p:RP}(h:RecsOwn W lo W.heap.size v qs)(hb:Below W.heap.size W Wa)(hlo:lo<=W.heap.size)(hp:ZaF Wa W.heap.size Wa.heap.size p)
  (row:W2.ownsRow lo 37 8 v' (qs.length+1) (flat encP (qs++[p]))) (hg:Wa.grownBy W2 v.ownBlock):RecsOwn W2 lo W2.heap.size v' (qs++[p]) where
 row:=by simpa using row
 top:=fun k hk=>(row.lt k hk).2
 apart:=Zn0 h.apart h.nears (fun k hk=>(hp.1.lt k hk).1)
 nears:=by
  have rowa:=Zad h.row hb (YA _);have key:∀ q,ZaF Wa lo Wa.heap.size q->ZaF W2 lo W2.heap.size q:=fun q hq=>
   ⟨Zal hq.1 (fun j hj=>hg.block j (hq.2 j hj) (Zc4 hq rowa j hj)),fun k hk=>YAB (hq.2 k hk) hg.size⟩
  intro q hq;rcases YAF.1 hq with h1 | h1
  ·exact key q (((h.nears q h1).keep (W':=Wa) (fun j _ h2 _=>hb.block j h2)).wide (YA _) hb.size)
  ·have:q=p:=by simpa using h1
   subst this;exact key q (hp.wide hlo (YA _))
theorem ZcR (W:World)(lo:Nat)(hb:lo<=W.heap.size):RecsOwn (W.alloc (.cells #[] 37)) lo (W.alloc (.cells #[] 37)).heap.size (.slice (some ⟨W.heap.size,0,none⟩) 0 0) [] where
 row:=World.ownsRow_lit W #[] 0 hb (by unfold maxLen;omega) (by simp)
 top:=by intro k hk;simp [Value.ownBlock] at hk;subst hk;simp
 nears:=by simp
 apart:=by simp
theorem Zdj (z:Int):∀ u∈intE z,u.oneCell'=true:=by
 intro u hu;simp [intE] at hu;subst hu;rfl
abbrev Za8 (W:World) (g:Nat) (x:WayD) (v:Value):World:=((W.setCell ⟨g,0,none⟩ (.int .i64 x.to)).setCell ⟨g,1,none⟩ (.int .i64 x.cost)).setCell ⟨g,2,none⟩ v
theorem Zds {B0:Nat}{c0 c1 c2:Value}(x:WayD)(v:Value)(hr:W.heap[B0]? = some (.cells #[c0,c1,c2] 108)):
  (Za8 W B0 x v).heap[B0]? = some (.cells (wayC x v) 108):=by
 have k1:=YAU _ _ 0 _ _ (.int .i64 x.to) hr;have k2:=YAU _ _ 1 _ _ (.int .i64 x.cost) k1;have k3:=YAU _ _ 2 _ _ v k2;simp only [YAq,YAs,YAu] at k3;unfold Za8 wayC;exact k3
theorem Za2 (W:World)(g:Nat)(x:WayD)(v:Value):W.grownBy (Za8 W g x v) (some g):=
 Zai (Zai (Zaw W g _ _) (Zaw _ g _ _)) (Zaw _ g _ _)
theorem ZfB (l:List Int):(flat intE l).length=l.length*1:=ZaD Zev l
theorem Zdm (W:World)(g base:Nat)(hg:g=W.heap.size)(hb:base<=W.heap.size):(W.alloc (.cells #[] 3)).ownsRow base 3 1 (.slice (some ⟨g,0,none⟩) 0 0) 0 (flat intE []):=by
 subst hg;exact World.ownsRow_lit W #[] 0 hb (by unfold maxLen;omega) (by simp)
theorem Zg4 (x:WayD)(v:Value)(base:Nat)(w:World)(ho:w.ownsRow base 3 1 v x.hops.length (flat intE x.hops))(hn:x.hops.length<=1048576):
  Calls Tryz.prog 122 #[.agg (wayC x v)] w fun e w'=>∃ v',e=.returned (.agg (wayC x v'))/\w'.ownsRow w.heap.size 3 1 v' x.hops.length (flat intE x.hops)/\Below w.heap.size w w':=by
 obtain⟨va,vc,rfl⟩:=Zac ho;have OW:=hide ho;clear ho
 go_enter Tryz.func122,Tryz.ntmps122
 unfold wayC
 go_wp2_with (first
  | (at_builtin;refine ZdL ZfB (by omega) Zdj (by omega) _ rfl _ _ 40 rfl (w.heap.size+2) 3 Tryz.underlying40 (.int .i64 0) rfl Tryz.info3 _ [] rfl ?own0 base _ x.hops rfl (((OW.out.alloc _).alloc _).alloc _) (by simp;omega) (by simp) ?_))
 case own0=>
  exact Zdm _ _ _ (by simp) (by simp)
 intro v' w4 hown' hgrow;obtain⟨na,nc,rfl⟩:=Zac hown';simp only [Value.ownBlock] at hgrow;have hb4:Below w.heap.size w w4:=((((YAC w.heap.size w).alloc (by simp) _).alloc (by simp) _).alloc (by simp;omega) _).grown hgrow (by simp;omega) (fun k hk=>by simp at hk;omega);have q0:w4.heap[w.heap.size]? = some (.cells #[.int .i64 x.to,.int .i64 x.cost,.slice va x.hops.length vc] 108):=by
  rw [hgrow.block w.heap.size (by simp;omega) (by simp;omega),YAH _ _ _ (by simp;omega),YAH _ _ _ (by simp),YAE]
 have q1:w4.heap[w.heap.size+1]? = some (.cells #[.int .i64 0,.int .i64 0,.slice none 0 0] 108):=by
  rw [hgrow.block (w.heap.size+1) (by simp) (by simp),YAH _ _ _ (by simp)];have e:=YAE (w.alloc (.cells #[.int .i64 x.to,.int .i64 x.cost,.slice va x.hops.length vc] 108)) (.cells #[.int .i64 0,.int .i64 0,.slice none 0 0] 108);rw [show (w.alloc (.cells #[.int .i64 x.to,.int .i64 x.cost,.slice va x.hops.length vc] 108)).heap.size=w.heap.size+1 by simp] at e;exact e
 have r2:=Zaa q0 2;have f0:=Zae q0;simp at r2;have q2:=YAU w4 w.heap.size 2 _ _ (.slice na x.hops.length nc) q0;simp only [YAq,YAs,YAu] at q2;have q3:(w4.setCell ⟨w.heap.size,2,none⟩ (.slice na x.hops.length nc)).heap[w.heap.size+1]? = some (.cells #[.int .i64 0,.int .i64 0,.slice none 0 0] 108):=by
  rw [YAO w4 ⟨w.heap.size,2,none⟩ _ _ (by show w.heap.size+1≠w.heap.size;omega)];exact q1
 have y0:=Zaa q2 0;have y1:=Zaa q2 1;have y2:=Zaa q2 2;simp at y0 y1 y2;have u0:=Zaa q3 0;have u1:=Zaa q3 1;have u2:=Zaa q3 2;simp at u0 u1 u2;have fu:=Zae q3;have F:=Zds x (.slice na x.hops.length nc) q3;have hown2:=ZaG (j:=2) (u:=.slice na x.hops.length nc) hown' (show w.heap.size<w.heap.size+2 by omega);have G8:=Za2 (w4.setCell ⟨w.heap.size,2,none⟩ (.slice na x.hops.length nc)) (w.heap.size+1) x (.slice na x.hops.length nc);have hown3:=Zaf (b0:=w.heap.size) (hown2.kept G8 (by
  cases hv:(Value.slice na x.hops.length nc).ownBlock with
  | none=>exact .inl rfl
  | some g=>exact .inr (fun e=>by have:=(hown2.lt g hv).1;simp at e;omega))) (by omega)
 have hb5:Below w.heap.size w (Za8 (w4.setCell ⟨w.heap.size,2,none⟩ (.slice na x.hops.length nc)) (w.heap.size+1) x (.slice na x.hops.length nc)):=(hb4.setCell (p:=⟨w.heap.size,2,none⟩) (YA _) _).grown G8 (by have:=Zab q3;omega) (fun k hk=>by simp at hk;omega);have FF:=hide F;have H3:=hide hown3;have H5:=hide hb5;clear F hown3 hb5 hown2 G8 hb4 hown' hgrow q0 q1 q2 q3 OW
 go_wp2_with fail
 (try simp only [Exit.inBlock,Exit.then])
 refine bodyPost_ret (results_cell_row rfl _ _ (w.heap.size+1) 108 (wayC _ _) (0,0) _ rfl FF.out Tryz.underlying108 rfl (by kernel_rfl)) rfl ?_;exact⟨_,rfl,H3.out,H5.out⟩
theorem ZhX (ps:List WP):ps.Pairwise ZcM↔(ps.map (·.2)).Pairwise (fun a b:Value=>∀ k,a.ownBlock=some k->b.ownBlock≠some k):=by
 rw [YAm];exact Iff.rfl
theorem ZnZ {ps:List WP}(h:ps.Pairwise ZcM){i:Nat}(hi:ps[i]? = some p)(hk:ps[k]? = some q)(hne:i≠k):ZcM p q:=by
 obtain⟨h1,e1⟩:=YAD.1 hi;obtain⟨h2,e2⟩:=YAD.1 hk;rw [YAa] at h;rcases Nat.lt_or_ge i k with hl | hl
 ·have:=h i k h1 h2 hl;rw [e1,e2] at this;exact this
 ·have:=h k i h2 h1 (by omega);rw [e1,e2] at this;exact fun j hj he=>this j he hj
theorem Zrd {ps:List WP}(hk:ps[k]? = some p)(h:q.2=p.2):(ps.set k q).map (·.2)=ps.map (·.2):=by
 apply List.ext_getElem?;intro i;by_cases e:i=k
 ·subst e;obtain⟨h1,e1⟩:=YAD.1 hk;rw [List.getElem?_map,List.getElem?_set_self h1,List.getElem?_map,hk];simp [h]
 ·simp [List.getElem?_set_ne (Ne.symm e)]
theorem WaysOwn.turn {W8:World}{hi g cap:Nat}{xs:List WP}(h:WaysOwn W lo hi (.slice (some ⟨g,0,none⟩) n cap) xs)(hn:xs.length=n)(hk:xs[k]? = some p)(hq:q.2=p.2)
  (row:W8.ownsRow lo 108 3 (.slice (some ⟨g,0,none⟩) n cap) n (flat encW (xs.set k q))) (near:W8.ownsRow lo 3 1 q.2 q.1.hops.length (flat intE q.1.hops))
  (hkeep:∀ j,j<W.heap.size->j≠g->some j≠p.2.ownBlock->W8.heap[j]? = W.heap[j]?):WaysOwn W8 lo hi (.slice (some ⟨g,0,none⟩) n cap) (xs.set k q) where
 row:=by rw [List.length_set,hn];exact row
 top:=h.top
 apart:=by rw [ZhX,Zrd hk hq, <-ZhX];exact h.apart
 nears:=by
  intro r hr;obtain⟨i,hi,e⟩:=List.getElem_of_mem hr;have hr2:(xs.set k q)[i]? = some r:=by rw [<-e];exact YAA hi
  by_cases ek:i=k
  ·subst ek;rw [List.getElem?_set_self (by simpa using hi)] at hr2;cases hr2;refine⟨near,?_⟩;rw [hq];exact (h.nears p (YAG hk)).2
  ·rw [List.getElem?_set_ne (Ne.symm ek)] at hr2;have ho:=h.nears r (YAG hr2);refine⟨Zal ho.1 (fun j hj=>?_),ho.2⟩;refine hkeep j (ho.1.lt j hj).2 ?_ ?_
   ·rintro rfl;obtain⟨cur,hh⟩:∃ cur,W.heap[j]? = some (.cells cur 108 (0,0)):=by
     rcases h.row.2 with ⟨h0,_⟩ | ⟨g',cap',cur',hv',_,hh',_⟩
     ·cases h0
     ·cases hv';exact⟨cur',hh'⟩
    rcases ho.1.2 with ⟨h0,_⟩ | ⟨g',cap',cur',hv',_,hh',_⟩
    ·rw [h0] at hj;simp [Value.ownBlock] at hj
    ·rw [hv'] at hj;simp [Value.ownBlock] at hj;subst hj;rw [hh] at hh';simp at hh'
   ·intro he;exact ZnZ h.apart hr2 hk ek j hj he.symm
theorem Zlh (n:Int)(l:Lk)(w:World):Calls Tryz.prog 72 #[.int .i64 n,lkV l] w fun e w'=>e=.returned (.bool (ZaP n l))/\Below w.heap.size w w':=by
 obtain⟨a,b,c,r⟩:=l;unfold lkV ZaP;simp only [];generalize hq1:inB n 1 6=q1;generalize hq2:inB a 1 n=q2;generalize hq3:inB b 1 n=q3;generalize hq4:inB c 1 1000=q4;generalize hq5:inB r 0 2=q5;have h1:=Za5 n 1 6;have h2:=Za5 a 1 n;have h3:=Za5 b 1 n;have h4:=Za5 c 1 1000;have h5:=Za5 r 0 2;rw [hq1] at h1;rw [hq2] at h2;rw [hq3] at h3;rw [hq4] at h4;rw [hq5] at h5;have H1:=hide h1;have H2:=hide h2;have H3:=hide h3;have H4:=hide h4;have H5:=hide h5;clear h1 h2 h3 h4 h5 hq1 hq2 hq3 hq4 hq5;cases q1
 ·go_enter Tryz.func72,Tryz.ntmps72
  go_wp2_with fail
  refine (H1.out _).mono ?_;rintro e w1 ⟨rfl,rfl⟩;go_wp2;go_ret;exact⟨by simp,(YAC _ _).alloc (YA _) _⟩
 cases q2
 ·go_enter Tryz.func72,Tryz.ntmps72
  go_wp2_with fail
  refine (H1.out _).mono ?_;rintro e w1 ⟨rfl,rfl⟩
  go_wp2_with fail
  refine (H2.out _).mono ?_;rintro e w1 ⟨rfl,rfl⟩;go_wp2;go_ret;exact⟨by simp,(YAC _ _).alloc (YA _) _⟩
 cases q3
 ·go_enter Tryz.func72,Tryz.ntmps72
  go_wp2_with fail
  refine (H1.out _).mono ?_;rintro e w1 ⟨rfl,rfl⟩
  go_wp2_with fail
  refine (H2.out _).mono ?_;rintro e w1 ⟨rfl,rfl⟩
  go_wp2_with fail
  refine (H3.out _).mono ?_;rintro e w1 ⟨rfl,rfl⟩;go_wp2;go_ret;exact⟨by simp,(YAC _ _).alloc (YA _) _⟩
 by_cases hab:a<b
 ·cases q4
  ·go_enter Tryz.func72,Tryz.ntmps72
   go_wp2_with fail
   refine (H1.out _).mono ?_;rintro e w1 ⟨rfl,rfl⟩
   go_wp2_with fail
   refine (H2.out _).mono ?_;rintro e w1 ⟨rfl,rfl⟩
   go_wp2_with fail
   refine (H3.out _).mono ?_;rintro e w1 ⟨rfl,rfl⟩
   go_wp2_with fail
   refine (H4.out _).mono ?_;rintro e w1 ⟨rfl,rfl⟩;go_wp2;go_ret;exact⟨by simp,(YAC _ _).alloc (YA _) _⟩
  ·go_enter Tryz.func72,Tryz.ntmps72
   go_wp2_with fail
   refine (H1.out _).mono ?_;rintro e w1 ⟨rfl,rfl⟩
   go_wp2_with fail
   refine (H2.out _).mono ?_;rintro e w1 ⟨rfl,rfl⟩
   go_wp2_with fail
   refine (H3.out _).mono ?_;rintro e w1 ⟨rfl,rfl⟩
   go_wp2_with fail
   refine (H4.out _).mono ?_;rintro e w1 ⟨rfl,rfl⟩
   go_wp2_with fail
   refine (H5.out _).mono ?_;rintro e w1 ⟨rfl,rfl⟩;go_wp2;go_ret;exact⟨Zah (by rw [YAT hab];simp),(YAC _ _).alloc (YA _) _⟩
 ·go_enter Tryz.func72,Tryz.ntmps72
  go_wp2_with fail
  refine (H1.out _).mono ?_;rintro e w1 ⟨rfl,rfl⟩
  go_wp2_with fail
  refine (H2.out _).mono ?_;rintro e w1 ⟨rfl,rfl⟩
  go_wp2_with fail
  refine (H3.out _).mono ?_;rintro e w1 ⟨rfl,rfl⟩;go_wp2;go_ret;exact⟨Zah (by rw [YAe (show ¬a<b by omega)];simp),(YAC _ _).alloc (YA _) _⟩
theorem ZcX {α:Type}{enc:α->List Value}{sz bytes:Nat}(hlen:∀ l:List α,(flat enc l).length=l.length*sz)(hpos:0<sz)(hbb:bytes<=100){P:Program}(w:World){ops:Array Oper}{rest:List Oper}{o:Oper}{a:Act}{Q:Exit->Act->World->Prop}(hgd:o.guard=none)(s x:Operand)(t:TypeId)
  (ho:o.op=.call { callee:=.builtin .append,args:=#[s,x],argTypes:=#[t,t] }) (base:Nat) (e:TypeId) (ht:P.underlying t=some (.slice e)) (zv:Value) (hzv:zv.cells.size=sz)
  (hinfo:(P.info? e).map (fun i=>(i.zero,i.size,i.bytes))=some (some zv,sz,bytes))
  (v:Value) (l:List α) (hs:a.eval s=v) (hown:w.ownsRow base e sz v l.length (flat enc l))
  (base2:Nat) (v2:Value) (l2:List α) (hone:∀ a∈l2,∀ u∈enc a,u.oneCell'=true) (hx:a.eval x=v2) (hown2:w.ownsRow base2 e sz v2 l2.length (flat enc l2))
  (hl:l.length+l2.length<=1000000000) (hbase:base<=w.heap.size)
  (h:∀ v' w',w'.ownsRow base e sz v' (l++l2).length (flat enc (l++l2))->w.grownBy w' v.ownBlock->wpList P ops Q rest (a.put o.dst v') w'):wpList P ops Q (o::rest) a w:=by
 obtain⟨i0,hi,hz0,hz1,hz2⟩:=info_parts hinfo;rcases hown2.2 with ⟨e1,e2⟩ | ⟨g,cap,cur,e1,_⟩
 ·have e3:l2=[]:=YAr e2;subst e3;refine wpList_append_own_none hgd s x t ho base e i0 sz ht hi v l.length (flat enc l) hs hown (hx.trans e1) ?_;exact h v w (by simpa using hown) (Zcq w _)
 ·refine wpList_append_own w hgd s x t ho base e i0 zv sz bytes ht hi hz0 hz1 hz2 hzv hpos v l.length (flat enc l) hs hown ⟨g,0,none⟩ l2.length cap (flat enc l2) (hx.trans e1) (hlen l2) (hown2.cells (by rw [e1];rfl)) ?_ (by unfold maxLen;omega) ?_ hbase ?_
  ·intro u hu;simp only [flat,YAp] at hu;obtain⟨b,hbm,hb⟩:=hu;exact hone b hbm u hb
  ·have:(l.length+l2.length)*bytes<=1000000000*100:=Nat.mul_le_mul hl hbb;omega
  ·intro v' w' h1 h2 _;have e1:flat enc l++flat enc l2=flat enc (l++l2):=by rw [ZaC]
   rw [e1] at h1;exact h v' w' (by simpa using h1) h2
def totD (xs:List RecD):Nat:=(xs.map (fun x=>1+x.near.length)).sum
theorem ZjB (ps:List RP):tot ps=totD (fsts ps):=by simp [tot,totD,fsts,List.map_map,Function.comp_def]
theorem Zda (x:RecD)(xs:List RecD):totD (x::xs)=1+x.near.length+totD xs:=by simp [totD]
theorem ZcB (a b:List RecD):totD (a++b)=totD a+totD b:=by simp [totD]
theorem Zls (l:Lk):∀ u∈lkE l,u.oneCell'=true:=by
 intro u hu;simp only [lkE,YAb,List.not_mem_nil,or_false] at hu;rcases hu with rfl | rfl | rfl | rfl <;> rfl
theorem ZgI {α:Type}{p:α->Bool}{ls:List α}{x:α}(h:ls[k]? = some x)(hp:p x=true):(ls.take (k+1)).filter p=(ls.take k).filter p++[x]:=by
 obtain⟨hk,e⟩:=YAD.1 h;rw [YAI hk,List.filter_append,e];simp [hp]
theorem Zi0 {α:Type}{p:α->Bool}{ls:List α}{x:α}(h:ls[k]? = some x)(hp:p x=false):(ls.take (k+1)).filter p=(ls.take k).filter p:=by
 obtain⟨hk,e⟩:=YAD.1 h;rw [YAI hk,List.filter_append,e];simp [hp]
theorem ZgH {α:Type}(p:α->Bool)(ls:List α)(k:Nat):((ls.take k).filter p).length<=ls.length:=by
 have h1:=List.length_filter_le p (ls.take k);have h2:=List.length_take_le k ls;have h3:(ls.take k).length<=ls.length:=by simp;omega
 omega
def Zgi (ls:List Lk)(l:Lk):List Lk:=ls.filter (fun x=>ZbF x l)++[l]++ls.filter (fun x=>ZbF l x)
theorem Zbx {w w':World}{base size:Nat}{e:TypeId}{xs:List Value}(hown:w.ownsRow base e size v n xs)(hg:w.grownBy w' v.ownBlock){b:Nat}(hb:b<base)(hbw:b<w.heap.size):w'.heap[b]? = w.heap[b]? :=
 hg.block b hbw (fun he=>by have:=(hown.lt b he.symm).1;omega)
theorem ZfS (v:Value)(ls:List Lk)(l:Lk)(w:World)(hls:ls.length<=1000)(hv:ZaK w v ls w.heap.size):
  Calls Tryz.prog 40 #[v,lkV l] w fun e w'=>∃ x,e=.returned x/\w'.ownsRow (w.heap.size+1) 78 4 x (Zgi ls l).length (flat lkE (Zgi ls l))/\Below w.heap.size w w':=by
 obtain⟨a,cap,rfl⟩:=hv.shape;have HV:=hide hv;clear hv;obtain⟨la,lb,lc,lr⟩:=l;unfold lkV;simp only []
 go_enter Tryz.func40,Tryz.ntmps40
 go_wp2
 go_loopw [5,6] (fun u i wr=>∃ k:Nat,k<=ls.length/\i=.int .i64 k/\wr.ownsRow (w.heap.size+1) 78 4 u ((ls.take k).filter (fun x=>ZbF x ⟨la,lb,lc,lr⟩)).length (flat lkE ((ls.take k).filter (fun x=>ZbF x ⟨la,lb,lc,lr⟩)))/\Below w.heap.size w wr/\wr.heap[w.heap.size]? = some (.cells #[.int .i64 la,.int .i64 lb,.int .i64 lc,.int .i64 lr] 78)) (fun _ i _=>ls.length-(intOf i).toNat)
 case atStart=>
  refine⟨0,by omega,rfl,?_,?_,?_⟩
  ·have h:=World.ownsRow_lit (base:=w.heap.size+1) (e:=78) (size:=4) (w.alloc (.cells #[.int .i64 la,.int .i64 lb,.int .i64 lc,.int .i64 lr] 78)) #[] 0 (by simp) (by decide) rfl;simpa [flat] using h
  ·exact ((YAC _ _).alloc (YA _) _).alloc (by simp) _
  ·rw [YAH _ _ _ (by simp),YAE]
 case round=>
  obtain⟨k,hk,rfl,hown,hb,hx⟩:=hrel;have hfl:=ZgH (fun x=>ZbF x ⟨la,lb,lc,lr⟩) ls k;have hxl:=Zab hx;by_cases hlt:k<ls.length
  ·obtain ⟨x,hl⟩:∃ l,ls[k]? = some l:=⟨ls[k],YAA hlt⟩;obtain⟨b,off,cap',hve,hbb,c0,c1,c2,c3⟩:=HV.out.cells k x hl;cases hve;have d0:=c0;have d1:=c1;have d2:=c2;have d3:=c3;replace c0:=(hb.cell hbb).trans c0;replace c1:=(hb.cell hbb).trans c1;replace c2:=(hb.cell hbb).trans c2;replace c3:=(hb.cell hbb).trans c3;have g0:=Zaa hx 0;have g1:=Zaa hx 1;have g2:=Zaa hx 2;have g3:=Zaa hx 3;simp at g0 g1 g2 g3;have hzr:=hb.size;have hbr:b<wr.heap.size:=by omega
   have hki:(0:Int)<=(k:Int):=by omega
   have hkj:(k:Int)<(ls.length:Int):=by omega
   obtain⟨q,hq⟩:∃ q,q=ZbF x ⟨la,lb,lc,lr⟩:=⟨_,rfl⟩;have hah:=Zgj x ⟨la,lb,lc,lr⟩;rw [<-hq] at hah;unfold lkV at hah;have HAH:=hide hah;have OW:=hide hown;have HX:=hide hx;have HL:=hide hl;have HQ:=hide hq;have D0:=hide d0;have D1:=hide d1;have D2:=hide d2;have D3:=hide d3;clear hah hown hx hl hq d0 d1 d2 d3;go_wp2
   go_region_held3 (fun W=>W.cell? ⟨b,off+k*4,none⟩=some (.int .i64 x.a)/\W.cell? ⟨b,off+k*4+1,none⟩=some (.int .i64 x.b)/\W.cell? ⟨b,off+k*4+2,none⟩=some (.int .i64 x.c)/\W.cell? ⟨b,off+k*4+3,none⟩=some (.int .i64 x.r)/\W.cell? ⟨w.heap.size,0,none⟩=some (.int .i64 la)/\W.cell? ⟨w.heap.size,1,none⟩=some (.int .i64 lb)/\W.cell? ⟨w.heap.size,2,none⟩=some (.int .i64 lc)/\W.cell? ⟨w.heap.size,3,none⟩=some (.int .i64 lr)) (first | go_keep | (refine ⟨?_,?_,?_,?_,?_,?_,?_,?_⟩ <;> (rw [hbc.cell (by assumption)];assumption))) (first | (go_at_call 55;refine (HAH.out _).mono ?_;rintro e w1 ⟨rfl,hbc⟩))
   have B1:Below w.heap.size w w1:=hb.drew.trans (hbc.mono hb.size);have hx1:w1.heap[w.heap.size]? = some (.cells #[.int .i64 la,.int .i64 lb,.int .i64 lc,.int .i64 lr] 78):=by rw [hbc.block _ hxl];exact HX.out
   have hown1:=Zad OW.out.drew hbc (YA _);have c0:=D0.out;have c1:=D1.out;have c2:=D2.out;have c3:=D3.out;replace c0:=(B1.cell hbb).trans c0;replace c1:=(B1.cell hbb).trans c1;replace c2:=(B1.cell hbb).trans c2;replace c3:=(B1.cell hbb).trans c3;have hxl1:=Zab hx1;have HX1:=hide hx1;have OW1:=hide hown1;clear hx1 hown1 hbc;cases q
   ·have hs:=Zi0 (p:=fun x=>ZbF x ⟨la,lb,lc,lr⟩) HL.out HQ.out.symm;have HS:=hide hs;clear hs;go_wp2;go_roundw
    case rel=>exact ⟨k+1,by omega,by go_num,by rw [HS.out];exact OW1.out,B1,HX1.out⟩
    case measure=>simp [intOf];omega
   ·have hs:=ZgI (p:=fun x=>ZbF x ⟨la,lb,lc,lr⟩) HL.out HQ.out.symm;have HS:=hide hs;clear hs
    go_wp2_with (first
     | (at_builtin;refine Za6 Zjg (by omega) Zls (by omega) _ rfl _ _ 24 rfl (w.heap.size+1) 78 Tryz.underlying24 (lkV lk0) rfl Tryz.infoLk u5 _ x rfl (OW1.out.alloc _) ⟨w1.heap.size,0,none⟩ 1 rfl (Zan (cs:=lkE x)) (by omega) (by simp;omega) ?_))
    intro v' w2 l' hl' hown' hgrow;have B2:Below w.heap.size w w2:=(B1.alloc B1.size _).grown hgrow (by simp;omega) (fun k hk=>by have:=(OW1.out.lt k hk).1;omega);have hx2:w2.heap[w.heap.size]? = some (.cells #[.int .i64 la,.int .i64 lb,.int .i64 lc,.int .i64 lr] 78):=by rw [Zbx (OW1.out.alloc _) hgrow (by omega) (by simp;omega),YAH _ _ _ hxl1];exact HX1.out
    have HX2:=hide hx2;have OW2:=hide hown';clear hx2 hown' hgrow;go_wp2;go_roundw
    case rel=>exact ⟨k+1,by omega,by go_num,by rw [HS.out, <-hl'.out];exact OW2.out,B2,HX2.out⟩
    case measure=>simp [intOf];omega
  ·have hk':k=ls.length:=by omega
   rw [hk',YAh] at hown;have g0:=Zaa hx 0;have g1:=Zaa hx 1;have g2:=Zaa hx 2;have g3:=Zaa hx 3;simp at g0 g1 g2 g3;have hzr:=hb.size;have hfl2:(ls.filter (fun x=>ZbF x ⟨la,lb,lc,lr⟩)).length<=ls.length:=List.length_filter_le _ _;have OW:=hide hown;have HX:=hide hx;clear hown hx hk';obtain⟨wo,rfl⟩:∃ wo:World,wo=wr:=⟨_,rfl⟩
   go_wp2_with (first
    | (at_builtin;refine Za6 Zjg (by omega) Zls (by omega) _ rfl _ _ 24 rfl (w.heap.size+1) 78 Tryz.underlying24 (lkV lk0) rfl Tryz.infoLk u5 _ ⟨la,lb,lc,lr⟩ rfl (OW.out.alloc _) ⟨wo.heap.size,0,none⟩ 1 rfl (Zan (cs:=lkE ⟨la,lb,lc,lr⟩)) (by omega) (by simp;omega) ?_))
   intro v' w2 l' hl' hown' hgrow;have B2:Below w.heap.size w w2:=(hb.alloc hb.size _).grown hgrow (by simp;omega) (fun k hk=>by have:=(OW.out.lt k hk).1;omega);have hx2:w2.heap[w.heap.size]? = some (.cells #[.int .i64 la,.int .i64 lb,.int .i64 lc,.int .i64 lr] 78):=by rw [Zbx (OW.out.alloc _) hgrow (by omega) (by simp;omega),YAH _ _ _ hxl];exact HX.out
   have hll:l'.length<=ls.length+1:=by rw [hl'.out];simp;omega
   have HX2:=hide hx2;have OW2:=hide hown';clear hx2 hown' hgrow hlt;go_wp2
   go_loopw [5,7] (fun u i wr=>∃ k:Nat,k<=ls.length/\i=.int .i64 k/\wr.ownsRow (w.heap.size+1) 78 4 u (l'++(ls.take k).filter (fun x=>ZbF ⟨la,lb,lc,lr⟩ x)).length (flat lkE (l'++(ls.take k).filter (fun x=>ZbF ⟨la,lb,lc,lr⟩ x)))/\Below w.heap.size w wr/\wr.heap[w.heap.size]? = some (.cells #[.int .i64 la,.int .i64 lb,.int .i64 lc,.int .i64 lr] 78)) (fun _ i _=>ls.length-(intOf i).toNat)
   case atStart=>exact ⟨0,by omega,rfl,by simpa using OW2.out,B2,HX2.out⟩
   case round=>
    clear OW2 HX2 B2 OW HX hb g0 g1 g2 g3 hzr hxl;obtain⟨k,hk,rfl,hown,hb,hx⟩:=hrel;have hfl:=ZgH (fun x=>ZbF ⟨la,lb,lc,lr⟩ x) ls k;have hfl3:(l'++(ls.take k).filter (fun x=>ZbF ⟨la,lb,lc,lr⟩ x)).length<=2*ls.length+1:=by rw [YAN];omega
    have hxl:=Zab hx;by_cases hlt:k<ls.length
    ·obtain ⟨x,hl⟩:∃ l,ls[k]? = some l:=⟨ls[k],YAA hlt⟩;obtain⟨b,off,cap',hve,hbb,c0,c1,c2,c3⟩:=HV.out.cells k x hl;cases hve;have d0:=c0;have d1:=c1;have d2:=c2;have d3:=c3;replace c0:=(hb.cell hbb).trans c0;replace c1:=(hb.cell hbb).trans c1;replace c2:=(hb.cell hbb).trans c2;replace c3:=(hb.cell hbb).trans c3;have g0:=Zaa hx 0;have g1:=Zaa hx 1;have g2:=Zaa hx 2;have g3:=Zaa hx 3;simp at g0 g1 g2 g3;have hzr:=hb.size;have hbr:b<wr.heap.size:=by omega
     have hki:(0:Int)<=(k:Int):=by omega
     have hkj:(k:Int)<(ls.length:Int):=by omega
     obtain⟨q,hq⟩:∃ q,q=ZbF ⟨la,lb,lc,lr⟩ x:=⟨_,rfl⟩;have hah:=Zgj ⟨la,lb,lc,lr⟩ x;rw [<-hq] at hah;unfold lkV at hah;have HAH:=hide hah;have OW:=hide hown;have HX:=hide hx;have HL:=hide hl;have HQ:=hide hq;have D0:=hide d0;have D1:=hide d1;have D2:=hide d2;have D3:=hide d3;clear hah hown hx hl hq d0 d1 d2 d3;go_wp2
     go_region_held3 (fun W=>W.cell? ⟨b,off+k*4,none⟩=some (.int .i64 x.a)/\W.cell? ⟨b,off+k*4+1,none⟩=some (.int .i64 x.b)/\W.cell? ⟨b,off+k*4+2,none⟩=some (.int .i64 x.c)/\W.cell? ⟨b,off+k*4+3,none⟩=some (.int .i64 x.r)/\W.cell? ⟨w.heap.size,0,none⟩=some (.int .i64 la)/\W.cell? ⟨w.heap.size,1,none⟩=some (.int .i64 lb)/\W.cell? ⟨w.heap.size,2,none⟩=some (.int .i64 lc)/\W.cell? ⟨w.heap.size,3,none⟩=some (.int .i64 lr)) (first | go_keep | (refine ⟨?_,?_,?_,?_,?_,?_,?_,?_⟩ <;> (rw [hbc.cell (by assumption)];assumption))) (first | (go_at_call 55;refine (HAH.out _).mono ?_;rintro e w1 ⟨rfl,hbc⟩))
     have B1:Below w.heap.size w w1:=hb.drew.trans (hbc.mono hb.size);have hx1:w1.heap[w.heap.size]? = some (.cells #[.int .i64 la,.int .i64 lb,.int .i64 lc,.int .i64 lr] 78):=by rw [hbc.block _ hxl];exact HX.out
     have hown1:=Zad OW.out.drew hbc (YA _);have c0:=D0.out;have c1:=D1.out;have c2:=D2.out;have c3:=D3.out;replace c0:=(B1.cell hbb).trans c0;replace c1:=(B1.cell hbb).trans c1;replace c2:=(B1.cell hbb).trans c2;replace c3:=(B1.cell hbb).trans c3;have hxl1:=Zab hx1;have HX1:=hide hx1;have OW1:=hide hown1;clear hx1 hown1 hbc;cases q
     ·have hs:=Zi0 (p:=fun x=>ZbF ⟨la,lb,lc,lr⟩ x) HL.out HQ.out.symm;have HS:=hide hs;clear hs;go_wp2;go_roundw
      case rel=>exact ⟨k+1,by omega,by go_num,by rw [HS.out];exact OW1.out,B1,HX1.out⟩
      case measure=>simp [intOf];omega
     ·have hs:=ZgI (p:=fun x=>ZbF ⟨la,lb,lc,lr⟩ x) HL.out HQ.out.symm;have HS:=hide hs;clear hs
      go_wp2_with (first
       | (at_builtin;refine Za6 Zjg (by omega) Zls (by omega) _ rfl _ _ 24 rfl (w.heap.size+1) 78 Tryz.underlying24 (lkV lk0) rfl Tryz.infoLk u5 _ x rfl (OW1.out.alloc _) ⟨w1.heap.size,0,none⟩ 1 rfl (Zan (cs:=lkE x)) (by omega) (by simp;omega) ?_))
      intro v' w2 l2 hl2 hown' hgrow;have B2:Below w.heap.size w w2:=(B1.alloc B1.size _).grown hgrow (by simp;omega) (fun k hk=>by have:=(OW1.out.lt k hk).1;omega);have hx2:w2.heap[w.heap.size]? = some (.cells #[.int .i64 la,.int .i64 lb,.int .i64 lc,.int .i64 lr] 78):=by rw [Zbx (OW1.out.alloc _) hgrow (by omega) (by simp;omega),YAH _ _ _ hxl1];exact HX1.out
      have HX2:=hide hx2;have OW2:=hide hown';clear hx2 hown' hgrow;go_wp2;go_roundw
      case rel=>exact ⟨k+1,by omega,by go_num,by rw [HS.out];first | (rw [<-hl2.out];exact OW2.out) | (rw [<-YAY, <-hl2.out];exact OW2.out),B2,HX2.out⟩
      case measure=>simp [intOf];omega
    ·have hk':k=ls.length:=by omega
     rw [hk',YAh] at hown;have OW:=hide hown;clear hown hk';go_wp2;go_ret;exact⟨_,rfl,by unfold Zgi;rw [<-hl'.out];exact OW.out,hb⟩
end Go.Proofs.YtikloccefmofdaaGreat
