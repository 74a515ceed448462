/-
  Parts.
-/
import Derived.Test.YtdhnddfnckgbjaaGreatZi3
import Derived.Laws.AppendOwnNone
namespace Go.Proofs.YtdhnddfnckgbjaaGreat
open Go.RowKit
set_option linter.unusedSimpArgs false
set_option linter.unusedVariables false
set_option maxRecDepth 100000
set_option maxHeartbeats 8000000
variable {a:Act}{ops:Array Oper}{Q:Exit->Act->World->Prop}{rest:List Oper}{xs:List Value}{ps:List WP}{bytes cap g hi i k lo n sz:Nat}{o:Oper}{P:Program}{p q:RP}{v:Value}{W W8:World}
theorem Znh (a:Nr):∀ u∈nrE a,u.oneCell'=true:=by
 intro u hu;simp [nrE] at hu;rcases hu with rfl | rfl <;> rfl
theorem Zbw {α:Type}{enc:α->List Value}(hlen:∀ l:List α,(flat enc l).length=l.length*sz)(hpos:0<sz)(hone:∀ a,∀ u∈enc a,u.oneCell'=true)(hbb:bytes<=100)(w:World)(hgd:o.guard=none)(s x:Operand)(t:TypeId)
  (ho:o.op=.call { callee:=.builtin .append,args:=#[s,x],argTypes:=#[t,t] }) (base:Nat) (e:TypeId) (ht:P.underlying t=some (.slice e)) (zv:Value) (hzv:zv.cells.size=sz)
  (hinfo:(P.info? e).map (fun i=>(i.zero,i.size,i.bytes))=some (some zv,sz,bytes))
  (v:Value) (l:List α) (hs:a.eval s=v) (hown:w.ownsRow base e sz v l.length (flat enc l))
  (base2:Nat) (v2:Value) (l2:List α) (hx:a.eval x=v2) (hown2:w.ownsRow base2 e sz v2 l2.length (flat enc l2))
  (hl:l.length+l2.length<=1000000000) (hbase:base<=w.heap.size)
  (h:∀ v' w',w'.ownsRow base e sz v' (l++l2).length (flat enc (l++l2))->w.grownBy w' v.ownBlock->wpList P ops Q rest (a.put o.dst v') w'):wpList P ops Q (o::rest) a w:=by
 obtain⟨i0,hi,hz0,hz1,hz2⟩:=info_parts hinfo;rcases hown2.2 with ⟨e1,e2⟩ | ⟨g,cap,cur,e1,_⟩
 ·have e3:l2=[]:=YAq e2;subst e3;refine wpList_append_own_none hgd s x t ho base e i0 sz ht hi v l.length (flat enc l) hs hown (hx.trans e1) ?_;exact h v w (by simpa using hown) (ZeU w _)
 ·refine wpList_append_own w hgd s x t ho base e i0 zv sz bytes ht hi hz0 hz1 hz2 hzv hpos v l.length (flat enc l) hs hown ⟨g,0,none⟩ l2.length cap (flat enc l2) (hx.trans e1) (hlen l2) (hown2.cells (by rw [e1];rfl)) ?_ (by unfold maxLen;omega) ?_ hbase ?_
  ·intro u hu;simp only [flat,List.mem_flatMap] at hu;obtain⟨b,_,hb⟩:=hu;exact hone b u hb
  ·have:(l.length+l2.length)*bytes<=1000000000*100:=Nat.mul_le_mul hl hbb;omega
  ·intro v' w' h1 h2 _;have e1:flat enc l++flat enc l2=flat enc (l++l2):=by rw [ZaQ]
   rw [e1] at h1;exact h v' w' (by simpa using h1) h2
abbrev ZkO (W:World) (g:Nat) (x:RecD) (v:Value):World:=(((((((W.setCell ⟨g,0,none⟩ (.int .i64 x.area)).setCell ⟨g,1,none⟩ (.int .i64 x.kind)).setCell ⟨g,2,none⟩ (.int .i64 x.owner)).setCell ⟨g,3,none⟩ (.int .i64 x.key)).setCell ⟨g,4,none⟩ (.int .i64 x.seq)).setCell ⟨g,5,none⟩ v).setCell ⟨g,6,none⟩ (.int .i64 x.cost)).setCell ⟨g,7,none⟩ (.bool x.far)
theorem Zoe {B0:Nat}{c0 c1 c2 c3 c4 c5 c6 c7:Value}(x:RecD)(v:Value)(hr:W.heap[B0]? = some (.cells #[c0,c1,c2,c3,c4,c5,c6,c7] 132)):
  (ZkO W B0 x v).heap[B0]? = some (.cells (recC x v) 132):=by
 have k1:=YAS _ _ 0 _ _ (.int .i64 x.area) hr;have k2:=YAS _ _ 1 _ _ (.int .i64 x.kind) k1;have k3:=YAS _ _ 2 _ _ (.int .i64 x.owner) k2;have k4:=YAS _ _ 3 _ _ (.int .i64 x.key) k3;have k5:=YAS _ _ 4 _ _ (.int .i64 x.seq) k4;have k6:=YAS _ _ 5 _ _ v k5;have k7:=YAS _ _ 6 _ _ (.int .i64 x.cost) k6;have k8:=YAS _ _ 7 _ _ (.bool x.far) k7;simp only [YAg,YAm,YAn] at k8;unfold ZkO recC;exact k8
theorem Zi4 (W:World)(g:Nat)(x:RecD)(v:Value):W.grownBy (ZkO W g x v) (some g):=
 Zaq (Zaq (Zaq (Zaq (Zaq (Zaq (Zaq (Zaj W g _ _) (Zaj _ g _ _)) (Zaj _ g _ _)) (Zaj _ g _ _)) (Zaj _ g _ _)) (Zaj _ g _ _)) (Zaj _ g _ _)) (Zaj _ g _ _)
theorem Znj (l:List Nr):(flat nrE l).length=l.length*2:=ZcK Zji l
theorem Zl5 (W:World)(g base:Nat)(hg:g=W.heap.size)(hb:base<=W.heap.size):(W.alloc (.cells #[] 135)).ownsRow base 135 2 (.slice (some ⟨g,0,none⟩) 0 0) 0 (flat nrE []):=by
 subst hg;exact YAU W #[] 0 hb (by unfold maxLen;omega) (by simp)
theorem Zlu (x:RecD)(v:Value)(base:Nat)(w:World)(ho:w.ownsRow base 135 2 v x.near.length (flat nrE x.near))(hn:x.near.length<=1048576):
  Calls Tryz.prog 106 #[.agg (recC x v)] w fun e w'=>∃ v',e=.returned (.agg (recC x v'))/\w'.ownsRow w.heap.size 135 2 v' x.near.length (flat nrE x.near)/\Below w.heap.size w w':=by
 obtain⟨va,vc,rfl⟩:=Zac ho;have OW:=hide ho;clear ho
 go_enter Tryz.func106,Tryz.ntmps106
 unfold recC
 go_wp2_with (first
  | (at_builtin;refine Zbw Znj (by omega) Znh (by omega) _ rfl _ _ 130 rfl (w.heap.size+2) 135 Tryz.underlying130 (nrV nr0) rfl Tryz.infoNr _ [] rfl ?own0 base _ x.near rfl (((OW.out.alloc _).alloc _).alloc _) (by simp;omega) (by simp) ?_))
 case own0=>
  exact Zl5 _ _ _ (by simp) (by simp)
 intro v' w4 hown' hgrow;obtain⟨na,nc,rfl⟩:=Zac hown';simp only [Value.ownBlock] at hgrow;have hb4:Below w.heap.size w w4:=((((YAB w.heap.size w).alloc (by simp) _).alloc (by simp) _).alloc (by simp;omega) _).grown hgrow (by simp;omega) (fun k hk=>by simp at hk;omega);have q0:w4.heap[w.heap.size]? = some (.cells #[.int .i64 x.area,.int .i64 x.kind,.int .i64 x.owner,.int .i64 x.key,.int .i64 x.seq,.slice va x.near.length vc,.int .i64 x.cost,.bool x.far] 132):=by
  rw [hgrow.block w.heap.size (by simp;omega) (by simp;omega),YAI _ _ _ (by simp;omega),YAI _ _ _ (by simp),YAE]
 have q1:w4.heap[w.heap.size+1]? = some (.cells #[.int .i64 0,.int .i64 0,.int .i64 0,.int .i64 0,.int .i64 0,.slice none 0 0,.int .i64 0,.bool false] 132):=by
  rw [hgrow.block (w.heap.size+1) (by simp) (by simp),YAI _ _ _ (by simp)];have e:=YAE (w.alloc (.cells #[.int .i64 x.area,.int .i64 x.kind,.int .i64 x.owner,.int .i64 x.key,.int .i64 x.seq,.slice va x.near.length vc,.int .i64 x.cost,.bool x.far] 132)) (.cells #[.int .i64 0,.int .i64 0,.int .i64 0,.int .i64 0,.int .i64 0,.slice none 0 0,.int .i64 0,.bool false] 132);rw [show (w.alloc (.cells #[.int .i64 x.area,.int .i64 x.kind,.int .i64 x.owner,.int .i64 x.key,.int .i64 x.seq,.slice va x.near.length vc,.int .i64 x.cost,.bool x.far] 132)).heap.size=w.heap.size+1 by simp] at e;exact e
 have r5:=Zaa q0 5;have f0:=Zae q0;simp at r5;have q2:=YAS w4 w.heap.size 5 _ _ (.slice na x.near.length nc) q0;simp only [YAg,YAm,YAn] at q2;have q3:(w4.setCell ⟨w.heap.size,5,none⟩ (.slice na x.near.length nc)).heap[w.heap.size+1]? = some (.cells #[.int .i64 0,.int .i64 0,.int .i64 0,.int .i64 0,.int .i64 0,.slice none 0 0,.int .i64 0,.bool false] 132):=by
  rw [YAQ w4 ⟨w.heap.size,5,none⟩ _ _ (by show w.heap.size+1≠w.heap.size;omega)];exact q1
 have y0:=Zaa q2 0;have y1:=Zaa q2 1;have y2:=Zaa q2 2;have y3:=Zaa q2 3;have y4:=Zaa q2 4;have y5:=Zaa q2 5;have y6:=Zaa q2 6;have y7:=Zaa q2 7;simp at y0 y1 y2 y3 y4 y5 y6 y7;have u0:=Zaa q3 0;have u1:=Zaa q3 1;have u2:=Zaa q3 2;have u3:=Zaa q3 3;have u4:=Zaa q3 4;have u5:=Zaa q3 5;have u6:=Zaa q3 6;have u7:=Zaa q3 7;simp at u0 u1 u2 u3 u4 u5 u6 u7;have fu:=Zae q3;have F:=Zoe x (.slice na x.near.length nc) q3;have hown2:=ZaH (j:=5) (u:=.slice na x.near.length nc) hown' (show w.heap.size<w.heap.size+2 by omega);have G8:=Zi4 (w4.setCell ⟨w.heap.size,5,none⟩ (.slice na x.near.length nc)) (w.heap.size+1) x (.slice na x.near.length nc);have hown3:=Zaf (b0:=w.heap.size) (hown2.kept G8 (by
  cases hv:(Value.slice na x.near.length nc).ownBlock with
  | none=>exact .inl rfl
  | some g=>exact .inr (fun e=>by have:=(hown2.lt g hv).1;simp at e;omega))) (by omega)
 have hb5:Below w.heap.size w (ZkO (w4.setCell ⟨w.heap.size,5,none⟩ (.slice na x.near.length nc)) (w.heap.size+1) x (.slice na x.near.length nc)):=(hb4.setCell (p:=⟨w.heap.size,5,none⟩) (YA _) _).grown G8 (by have:=Zab q3;omega) (fun k hk=>by simp at hk;omega);have FF:=hide F;have H3:=hide hown3;have H5:=hide hb5;clear F hown3 hb5 hown2 G8 hb4 hown' hgrow q0 q1 q2 q3 OW
 go_wp2_with fail
 (try simp only [Exit.inBlock,Exit.then])
 refine bodyPost_ret (results_cell_row rfl _ _ (w.heap.size+1) 132 (recC _ _) (0,0) _ rfl FF.out Tryz.underlying132 rfl (by kernel_rfl)) rfl ?_;exact⟨_,rfl,H3.out,H5.out⟩
theorem ZhX (ps:List RP):ps.Pairwise Zkf↔(ps.map (·.2)).Pairwise (fun a b:Value=>∀ k,a.ownBlock=some k->b.ownBlock≠some k):=by
 rw [YAY];exact Iff.rfl
theorem ZmI {ps:List RP}(h:ps.Pairwise Zkf)(hi:ps[i]? = some p)(hk:ps[k]? = some q)(hne:i≠k):Zkf p q:=by
 obtain⟨h1,e1⟩:=YAD.1 hi;obtain⟨h2,e2⟩:=YAD.1 hk;rw [YAf] at h;rcases Nat.lt_or_ge i k with hl | hl
 ·have:=h i k h1 h2 hl;rw [e1,e2] at this;exact this
 ·have:=h k i h2 h1 (by omega);rw [e1,e2] at this;exact fun j hj he=>this j he hj
theorem Zoz {ps:List RP}(hk:ps[k]? = some p)(h:q.2=p.2):(ps.set k q).map (·.2)=ps.map (·.2):=by
 apply List.ext_getElem?;intro i;by_cases e:i=k
 ·subst e;obtain⟨h1,e1⟩:=YAD.1 hk;rw [YAZ,List.getElem?_set_self h1,YAZ,hk];simp [h]
 ·simp [List.getElem?_set_ne (Ne.symm e)]
theorem RecsOwn.turn {xs:List RP}(h:RecsOwn W lo hi (.slice (some ⟨g,0,none⟩) n cap) xs)(hn:xs.length=n)(hk:xs[k]? = some p)(hq:q.2=p.2)
  (row:W8.ownsRow lo 132 8 (.slice (some ⟨g,0,none⟩) n cap) n (flat encP (xs.set k q))) (near:W8.ownsRow lo 135 2 q.2 q.1.near.length (flat nrE q.1.near))
  (hkeep:∀ j,j<W.heap.size->j≠g->some j≠p.2.ownBlock->W8.heap[j]? = W.heap[j]?):RecsOwn W8 lo hi (.slice (some ⟨g,0,none⟩) n cap) (xs.set k q) where
 row:=by rw [List.length_set,hn];exact row
 top:=h.top
 apart:=by rw [ZhX,Zoz hk hq, <-ZhX];exact h.apart
 nears:=by
  intro r hr;obtain⟨i,hi,e⟩:=List.getElem_of_mem hr;have hr2:(xs.set k q)[i]? = some r:=by rw [<-e];exact YAA hi
  by_cases ek:i=k
  ·subst ek;rw [List.getElem?_set_self (by simpa using hi)] at hr2;cases hr2;refine⟨near,?_⟩;rw [hq];exact (h.nears p (YAF hk)).2
  ·rw [List.getElem?_set_ne (Ne.symm ek)] at hr2;have ho:=h.nears r (YAF hr2);refine⟨Zai ho.1 (fun j hj=>?_),ho.2⟩;refine hkeep j (ho.1.lt j hj).2 ?_ ?_
   ·rintro rfl;obtain⟨cur,hh⟩:∃ cur,W.heap[j]? = some (.cells cur 132 (0,0)):=by
     rcases h.row.2 with ⟨h0,_⟩ | ⟨g',cap',cur',hv',_,hh',_⟩
     ·cases h0
     ·cases hv';exact⟨cur',hh'⟩
    rcases ho.1.2 with ⟨h0,_⟩ | ⟨g',cap',cur',hv',_,hh',_⟩
    ·rw [h0] at hj;simp [Value.ownBlock] at hj
    ·rw [hv'] at hj;simp [Value.ownBlock] at hj;subst hj;rw [hh] at hh';simp at hh'
   ·intro he;exact ZmI h.apart hr2 hk ek j hj he.symm
theorem Zas {base size z:Nat}{e t:TypeId}{C:Array Value}{fr:Nat × Nat}(ho:W.ownsRow base e size v n xs)(h:W.heap[z]? = some (.cells C t fr))(hne:e≠t):some z≠v.ownBlock:=by
 intro eq;rcases ho.2 with ⟨h1,_⟩ | ⟨g',cap',cur',hv',_,hh',_⟩
 ·rw [h1] at eq;simp [Value.ownBlock] at eq
 ·rw [hv'] at eq;simp [Value.ownBlock] at eq;subst eq;rw [h] at hh';simp at hh';exact hne hh'.2.1.symm
def cmpK (a b c d:Int):Int:=if a=0 then (if b=0 then (if c=0 then d else c) else b) else a
theorem ZmO (x y:RecD):decide (cmpK (cmpN x.area y.area) (cmpN x.kind y.kind) (cmpN x.owner y.owner) (cmpN x.key y.key)<0)=Zat x y:=by
 unfold cmpK Zat;by_cases h1:x.area=y.area
 ·rw [if_pos (Zcq.2 h1)];by_cases h2:x.kind=y.kind
  ·rw [if_pos (Zcq.2 h2)];by_cases h3:x.owner=y.owner
   ·rw [if_pos (Zcq.2 h3)];simp [Zej,h1,h2,h3]
   ·rw [if_neg (fun h=>h3 (Zcq.1 h))];simp [Zej,h1,h2,h3]
  ·rw [if_neg (fun h=>h2 (Zcq.1 h))];simp [Zej,h1,h2]
 ·rw [if_neg (fun h=>h1 (Zcq.1 h))];simp [Zej,h1]

theorem Tryz.infoWay :(Tryz.prog.info? 144).map (fun i=>(i.zero,i.size,i.bytes))=some (some (.agg (wayC Zce (.slice none 0 0))),3,40):=by kernel_rfl
def Zam (ps:List WP):List WayD:=ps.map (·.1)
theorem ZmV {p:WP}(h:ps[i]? = some p):(Zam ps)[i]? = some p.1:=by simp [Zam,h]
def Zbo (n:Int)(l:Lk):Bool:=inB n 1 6&&inB l.a 1 n&&inB l.b 1 n&&decide (l.a<l.b)&&inB l.c 1 1000&&inB l.r 0 2
def Zbg (a b:Lk):Bool:=decide (a.a<b.a)||(a.a==b.a&&(decide (a.b<b.b)||(a.b==b.b&&decide (a.r<b.r))))
def Zbh (a b:Th):Bool:=decide (a.k<b.k)||(a.k==b.k&&decide (a.o<b.o))
theorem Zjs (n:Int)(l:Lk)(w:World):Calls Tryz.prog 102 #[.int .i64 n,lkV l] w fun e w'=>e=.returned (.bool (Zbo n l))/\Below w.heap.size w w':=by
 obtain⟨a,b,c,r⟩:=l;unfold lkV Zbo;simp only [];generalize hq1:inB n 1 6=q1;generalize hq2:inB a 1 n=q2;generalize hq3:inB b 1 n=q3;generalize hq4:inB c 1 1000=q4;generalize hq5:inB r 0 2=q5;have h1:=Zbs n 1 6;have h2:=Zbs a 1 n;have h3:=Zbs b 1 n;have h4:=Zbs c 1 1000;have h5:=Zbs r 0 2;rw [hq1] at h1;rw [hq2] at h2;rw [hq3] at h3;rw [hq4] at h4;rw [hq5] at h5;have H1:=hide h1;have H2:=hide h2;have H3:=hide h3;have H4:=hide h4;have H5:=hide h5;clear h1 h2 h3 h4 h5 hq1 hq2 hq3 hq4 hq5;cases q1
 ·go_enter Tryz.func102,Tryz.ntmps102
  go_wp2_with fail
  refine (H1.out _).mono ?_;rintro e w1 ⟨rfl,rfl⟩;go_wp2;go_ret;exact⟨by simp,(YAB _ _).alloc (YA _) _⟩
 cases q2
 ·go_enter Tryz.func102,Tryz.ntmps102
  go_wp2_with fail
  refine (H1.out _).mono ?_;rintro e w1 ⟨rfl,rfl⟩
  go_wp2_with fail
  refine (H2.out _).mono ?_;rintro e w1 ⟨rfl,rfl⟩;go_wp2;go_ret;exact⟨by simp,(YAB _ _).alloc (YA _) _⟩
 cases q3
 ·go_enter Tryz.func102,Tryz.ntmps102
  go_wp2_with fail
  refine (H1.out _).mono ?_;rintro e w1 ⟨rfl,rfl⟩
  go_wp2_with fail
  refine (H2.out _).mono ?_;rintro e w1 ⟨rfl,rfl⟩
  go_wp2_with fail
  refine (H3.out _).mono ?_;rintro e w1 ⟨rfl,rfl⟩;go_wp2;go_ret;exact⟨by simp,(YAB _ _).alloc (YA _) _⟩
 by_cases hab:a<b
 ·cases q4
  ·go_enter Tryz.func102,Tryz.ntmps102
   go_wp2_with fail
   refine (H1.out _).mono ?_;rintro e w1 ⟨rfl,rfl⟩
   go_wp2_with fail
   refine (H2.out _).mono ?_;rintro e w1 ⟨rfl,rfl⟩
   go_wp2_with fail
   refine (H3.out _).mono ?_;rintro e w1 ⟨rfl,rfl⟩
   go_wp2_with fail
   refine (H4.out _).mono ?_;rintro e w1 ⟨rfl,rfl⟩;go_wp2;go_ret;exact⟨by simp,(YAB _ _).alloc (YA _) _⟩
  ·go_enter Tryz.func102,Tryz.ntmps102
   go_wp2_with fail
   refine (H1.out _).mono ?_;rintro e w1 ⟨rfl,rfl⟩
   go_wp2_with fail
   refine (H2.out _).mono ?_;rintro e w1 ⟨rfl,rfl⟩
   go_wp2_with fail
   refine (H3.out _).mono ?_;rintro e w1 ⟨rfl,rfl⟩
   go_wp2_with fail
   refine (H4.out _).mono ?_;rintro e w1 ⟨rfl,rfl⟩
   go_wp2_with fail
   refine (H5.out _).mono ?_;rintro e w1 ⟨rfl,rfl⟩;go_wp2;go_ret;exact⟨Zao (by rw [YAi hab];simp),(YAB _ _).alloc (YA _) _⟩
 ·go_enter Tryz.func102,Tryz.ntmps102
  go_wp2_with fail
  refine (H1.out _).mono ?_;rintro e w1 ⟨rfl,rfl⟩
  go_wp2_with fail
  refine (H2.out _).mono ?_;rintro e w1 ⟨rfl,rfl⟩
  go_wp2_with fail
  refine (H3.out _).mono ?_;rintro e w1 ⟨rfl,rfl⟩;go_wp2;go_ret;exact⟨Zao (by rw [YAo (show ¬a<b by omega)];simp),(YAB _ _).alloc (YA _) _⟩
theorem Ze2 (l m:Lk)(w:World):Calls Tryz.prog 77 #[lkV l,lkV m] w fun e w'=>e=.returned (.bool (Zbg l m))/\Below w.heap.size w w':=by
 obtain⟨a,b,c,r⟩:=l;obtain⟨a',b',c',r'⟩:=m;unfold lkV
 go_enter Tryz.func77,Tryz.ntmps77
 go_wp2
 all_goals go_ret
 all_goals refine ⟨Zao ?_,ZaK _ _⟩
 all_goals (simp only [Zbg];grind)
theorem Ze6 (l m:Th)(w:World):Calls Tryz.prog 78 #[thV l,thV m] w fun e w'=>e=.returned (.bool (Zbh l m))/\Below w.heap.size w w':=by
 obtain⟨a,b,c,r⟩:=l;obtain⟨a',b',c',r'⟩:=m;unfold thV
 go_enter Tryz.func78,Tryz.ntmps78
 go_wp2
 all_goals go_ret
 all_goals refine ⟨Zao ?_,ZaK _ _⟩
 all_goals (simp only [Zbh];grind)
theorem Tryz.infoLine :(Tryz.prog.info? 39).map (fun i=>(i.zero,i.size,i.bytes))=some (some (.agg (lnC ZdW (.slice none 0 0))),3,40):=by kernel_rfl
def Zag (ps:List JP):List LnD:=ps.map (·.1)
theorem Zc7 {ps:List JP}{p:JP}(h:ps[i]? = some p):(Zag ps)[i]? = some p.1:=by simp [Zag,h]
def ZhD (x y:LnD):Int:=if x.thing=false/\y.thing=true then -1 else if x.thing=true/\y.thing=false then 1 else orN [cmpN x.to y.to,Za9 x.hops y.hops]
theorem ZeA (w1:World)(cs:Array Value)(t:TypeId)(j:Nat)(v:Value)(h:cs[j]? = some v):(w1.alloc (.cells cs t)).drew.cell? ⟨w1.heap.size,j,none⟩=some v:=by
 have:=Zaa (YAE w1 (.cells cs t)) j;rw [h] at this;exact this
theorem Zir (x y:LnD)(u v:Value)(w:World)(h1:Zal w u x.hops w.heap.size)(h2:Zal w v y.hops w.heap.size)(hl:x.hops.length<=1048576):
  Calls Tryz.prog 23 #[.agg (lnC x u),.agg (lnC y v)] w fun e w'=>e=.returned (.int .i64 (ZhD x y))/\Below w.heap.size w w'/\w.drawn<=w'.drawn:=by
 obtain⟨ua,uc,rfl⟩:=h1.shape;obtain⟨va,vc,rfl⟩:=h2.shape;obtain⟨R,hR⟩:∃ R,R=ZhD x y:=⟨_,rfl⟩;rw [<-hR];unfold ZhD at hR;obtain⟨tx,zx,hx⟩:=x;obtain⟨ty,zy,hy⟩:=y;simp only at hR h1 h2 hl;have HR:=hide hR;have H1:=hide h1;have H2:=hide h2;clear hR h1 h2;unfold lnC;simp only [];have HW:=hide (fun W (hb:Below w.heap.size w W)=>ZhH (.slice ua hx.length uc) (.slice va hy.length vc) hx hy W (Zau.more (Zau.later H1.out hb (YA _)) hb.size) (Zau.more (Zau.later H2.out hb (YA _)) hb.size) hl);clear H1 H2;cases tx <;> cases ty
 case false.true=>
  have HRR:=hide (show R = -1 from HR.out);clear HR
  go_enter Tryz.func23,Tryz.ntmps23
  go_wp2;go_ret;exact⟨by rw [HRR.out];rfl,ZaK _ _,YA _⟩
 case true.false=>
  have HRR:=hide (show R=1 from HR.out);clear HR
  go_enter Tryz.func23,Tryz.ntmps23
  go_wp2;go_ret;exact⟨by rw [HRR.out];rfl,ZaK _ _,YA _⟩
 case false.false=>
  have HRR:=hide (show R=orN [cmpN zx zy,Za9 hx hy] from HR.out);clear HR;obtain⟨c1,hc1⟩:∃ c,c=cmpN zx zy:=⟨_,rfl⟩;obtain⟨c2,hc2⟩:∃ c,c=Za9 hx hy:=⟨_,rfl⟩;rw [<-hc1, <-hc2] at HRR;rw [<-hc2] at HW;have HC1:=hide hc1;clear hc1 hc2
  go_enter Tryz.func23,Tryz.ntmps23
  go_wp2;obtain⟨w1,hw1⟩:∃ w1,w1=(w.alloc (.cells #[.bool false,.int .i64 zx,.slice ua hx.length uc] 39)).alloc (.cells #[.bool false,.int .i64 zy,.slice va hy.length vc] 39):=⟨_,rfl⟩;have B1:Below w.heap.size w w1:=by rw [hw1];exact ZaK _ _
  have D1:w.drawn<=w1.drawn:=by rw [hw1];exact YA _
  have p0:w1.heap[w.heap.size]? = some (.cells #[.bool false,.int .i64 zx,.slice ua hx.length uc] 39):=by rw [hw1,YAI _ _ _ (by simp),YAE]
  have q0:w1.heap[w.heap.size+1]? = some (.cells #[.bool false,.int .i64 zy,.slice va hy.length vc] 39):=by
   rw [hw1];have:=YAE (w.alloc (.cells #[.bool false,.int .i64 zx,.slice ua hx.length uc] 39)) (.cells #[.bool false,.int .i64 zy,.slice va hy.length vc] 39);simpa using this
  rw [<-hw1];clear hw1;have s1:=Zaa p0 1;have t1:=Zaa q0 1;have s2:=Zaa p0 2;have t2:=Zaa q0 2;simp at s1 s2 t1 t2;have hz2:=B1.size;have BB1:=hide B1;clear p0 q0 B1
  go_region_held3 (fun W=>W.cell? ⟨w.heap.size,1,none⟩=some (.int .i64 zx)/\W.cell? ⟨w.heap.size,2,none⟩=some (.slice ua hx.length uc)/\W.cell? ⟨w.heap.size+1,1,none⟩=some (.int .i64 zy)/\W.cell? ⟨w.heap.size+1,2,none⟩=some (.slice va hy.length vc)) (first | go_keep | assumption) (first | (go_at_call 37;refine (Zc4 _ _ _).mono ?_;rintro e w' ⟨rfl,rfl⟩;rw [<-HC1.out]) | (go_at_call 41;refine (HW.out _ BB1.out.drew).mono ?_;rintro e w' ⟨rfl,rfl⟩) | (go_at_call 40;refine (Zn3 _ c1 c2 _ ?_ ?_).mono ?_;(exact ZeA _ _ _ _ _ rfl);(exact ZeA _ _ _ _ _ rfl);rintro e w' ⟨rfl,rfl⟩))
  go_wp2;go_ret;exact⟨by rw [HRR.out];rfl,(BB1.out.alloc hz2 _).drew,YAG D1 (Nat.le_succ _)⟩
 case true.true=>
  have HRR:=hide (show R=orN [cmpN zx zy,Za9 hx hy] from HR.out);clear HR;obtain⟨c1,hc1⟩:∃ c,c=cmpN zx zy:=⟨_,rfl⟩;obtain⟨c2,hc2⟩:∃ c,c=Za9 hx hy:=⟨_,rfl⟩;rw [<-hc1, <-hc2] at HRR;rw [<-hc2] at HW;have HC1:=hide hc1;clear hc1 hc2
  go_enter Tryz.func23,Tryz.ntmps23
  go_wp2;obtain⟨w1,hw1⟩:∃ w1,w1=(w.alloc (.cells #[.bool true,.int .i64 zx,.slice ua hx.length uc] 39)).alloc (.cells #[.bool true,.int .i64 zy,.slice va hy.length vc] 39):=⟨_,rfl⟩;have B1:Below w.heap.size w w1:=by rw [hw1];exact ZaK _ _
  have D1:w.drawn<=w1.drawn:=by rw [hw1];exact YA _
  have p0:w1.heap[w.heap.size]? = some (.cells #[.bool true,.int .i64 zx,.slice ua hx.length uc] 39):=by rw [hw1,YAI _ _ _ (by simp),YAE]
  have q0:w1.heap[w.heap.size+1]? = some (.cells #[.bool true,.int .i64 zy,.slice va hy.length vc] 39):=by
   rw [hw1];have:=YAE (w.alloc (.cells #[.bool true,.int .i64 zx,.slice ua hx.length uc] 39)) (.cells #[.bool true,.int .i64 zy,.slice va hy.length vc] 39);simpa using this
  rw [<-hw1];clear hw1;have s1:=Zaa p0 1;have t1:=Zaa q0 1;have s2:=Zaa p0 2;have t2:=Zaa q0 2;simp at s1 s2 t1 t2;have hz2:=B1.size;have BB1:=hide B1;clear p0 q0 B1
  go_region_held3 (fun W=>W.cell? ⟨w.heap.size,1,none⟩=some (.int .i64 zx)/\W.cell? ⟨w.heap.size,2,none⟩=some (.slice ua hx.length uc)/\W.cell? ⟨w.heap.size+1,1,none⟩=some (.int .i64 zy)/\W.cell? ⟨w.heap.size+1,2,none⟩=some (.slice va hy.length vc)) (first | go_keep | assumption) (first | (go_at_call 37;refine (Zc4 _ _ _).mono ?_;rintro e w' ⟨rfl,rfl⟩;rw [<-HC1.out]) | (go_at_call 41;refine (HW.out _ BB1.out.drew).mono ?_;rintro e w' ⟨rfl,rfl⟩) | (go_at_call 40;refine (Zn3 _ c1 c2 _ ?_ ?_).mono ?_;(exact ZeA _ _ _ _ _ rfl);(exact ZeA _ _ _ _ _ rfl);rintro e w' ⟨rfl,rfl⟩))
  go_wp2;go_ret;exact⟨by rw [HRR.out];rfl,(BB1.out.alloc hz2 _).drew,YAG D1 (Nat.le_succ _)⟩
theorem Zay {α:Type}{enc:α->List Value}(hlen:∀ a,(enc a).length=sz)(hpos:0<sz)(hbb:bytes<=100)(w:World)(hgd:o.guard=none)(s x:Operand)(t:TypeId)
  (ho:o.op=.call { callee:=.builtin .append,args:=#[s,x],argTypes:=#[t,t] }) (base:Nat) (e:TypeId) (ht:P.underlying t=some (.slice e)) (zv:Value) (hzv:zv.cells.size=sz)
  (hinfo:(P.info? e).map (fun i=>(i.zero,i.size,i.bytes))=some (some zv,sz,bytes))
  (v:Value) (l:List α) (y:α) (hone:∀ u∈enc y,u.oneCell'=true) (hs:a.eval s=v) (hown:w.ownsRow base e sz v l.length (flat enc l))
  (ad:Addr) (c:Nat) (hx:a.eval x=.slice (some ad) 1 c) (hnews:∀ j u,(enc y)[j]? = some u->w.cell? (ad.add j)=some u)
  (hl:l.length+1<=1000000000) (hbase:base<=w.heap.size)
  (h:∀ v' w',w'.ownsRow base e sz v' (l++[y]).length (flat enc (l++[y]))->w.grownBy w' v.ownBlock->wpList P ops Q rest (a.put o.dst v') w'):wpList P ops Q (o::rest) a w:=by
 obtain⟨i0,hi,hz0,hz1,hz2⟩:=info_parts hinfo;refine wpList_append_own w hgd s x t ho base e i0 zv sz bytes ht hi hz0 hz1 hz2 hzv hpos v l.length (flat enc l) hs hown ad 1 c (enc y) hx (by rw [hlen];omega) hnews hone (by unfold maxLen;omega) ?_ hbase ?_
 ·have:(l.length+1)*bytes<=1000000000*100:=Nat.mul_le_mul hl hbb;omega
 ·intro v' w' h1 h2 _;have e1:flat enc l++enc y=flat enc (l++[y]):=by rw [ZaQ];simp [flat]
  rw [e1] at h1;exact h v' w' (by simpa using h1) h2
theorem Zci (x:RecD)(a:Option Addr)(n c:Nat):∀ u∈encP (x,.slice a n c),u.oneCell'=true:=by
 intro u hu;simp only [encP,YAR,List.not_mem_nil,or_false] at hu;rcases hu with rfl | rfl | rfl | rfl | rfl | rfl | rfl | rfl <;> rfl
theorem Zf2 {lo2 size2:Nat}(hq:ZaE W lo hi q)(hr:W.ownsRow lo2 132 size2 v n xs)(j:Nat)(hj:q.2.ownBlock=some j):some j≠v.ownBlock:=by
 intro e;rcases hr.2 with ⟨h0,_⟩ | ⟨g,cap,cur,hv,_,hh,_⟩
 ·rw [h0] at e;simp [Value.ownBlock] at e
 ·rw [hv] at e;simp [Value.ownBlock] at e;subst e;exact Zas hq.1 hh (by decide) hj.symm
theorem RecsOwn.push {Wa W2:World}{v':Value}{qs:List RP}(h:RecsOwn W lo W.heap.size v qs)(hb:Below W.heap.size W Wa)(hlo:lo<=W.heap.size)(hp:ZaE Wa W.heap.size Wa.heap.size p)
  (row:W2.ownsRow lo 132 8 v' (qs.length+1) (flat encP (qs++[p]))) (hg:Wa.grownBy W2 v.ownBlock):RecsOwn W2 lo W2.heap.size v' (qs++[p]) where
 row:=by simpa using row
 top:=fun k hk=>(row.lt k hk).2
 apart:=Zld h.apart h.nears (fun k hk=>(hp.1.lt k hk).1)
 nears:=by
  have rowa:=Zad h.row hb (YA _);have key:∀ q,ZaE Wa lo Wa.heap.size q->ZaE W2 lo W2.heap.size q:=fun q hq=>
   ⟨Zai hq.1 (fun j hj=>hg.block j (hq.2 j hj) (Zf2 hq rowa j hj)),fun k hk=>YAC (hq.2 k hk) hg.size⟩
  intro q hq;rcases YAH.1 hq with h1 | h1
  ·exact key q (((h.nears q h1).keep (W':=Wa) (fun j _ h2 _=>hb.block j h2)).wide (YA _) hb.size)
  ·have:q=p:=by simpa using h1
   subst this;exact key q (hp.wide hlo (YA _))
theorem Zfz (W:World)(lo:Nat)(hb:lo<=W.heap.size):RecsOwn (W.alloc (.cells #[] 132)) lo (W.alloc (.cells #[] 132)).heap.size (.slice (some ⟨W.heap.size,0,none⟩) 0 0) [] where
 row:=YAU W #[] 0 hb (by unfold maxLen;omega) (by simp)
 top:=by intro k hk;simp [Value.ownBlock] at hk;subst hk;simp
 nears:=by simp
 apart:=by simp
theorem Zcj (z:Int):∀ u∈intE z,u.oneCell'=true:=by
 intro u hu;simp [intE] at hu;subst hu;rfl
abbrev ZbJ (W:World) (g:Nat) (x:WayD) (v:Value):World:=((W.setCell ⟨g,0,none⟩ (.int .i64 x.to)).setCell ⟨g,1,none⟩ (.int .i64 x.cost)).setCell ⟨g,2,none⟩ v
theorem Zid {B0:Nat}{c0 c1 c2:Value}(x:WayD)(v:Value)(hr:W.heap[B0]? = some (.cells #[c0,c1,c2] 144)):
  (ZbJ W B0 x v).heap[B0]? = some (.cells (wayC x v) 144):=by
 have k1:=YAS _ _ 0 _ _ (.int .i64 x.to) hr;have k2:=YAS _ _ 1 _ _ (.int .i64 x.cost) k1;have k3:=YAS _ _ 2 _ _ v k2;simp only [YAg,YAm,YAn] at k3;unfold ZbJ wayC;exact k3
theorem ZbH (W:World)(g:Nat)(x:WayD)(v:Value):W.grownBy (ZbJ W g x v) (some g):=
 Zaq (Zaq (Zaj W g _ _) (Zaj _ g _ _)) (Zaj _ g _ _)
theorem ZcS (l:List Int):(flat intE l).length=l.length*1:=ZcK Zc8 l
theorem Zck (W:World)(g base:Nat)(hg:g=W.heap.size)(hb:base<=W.heap.size):(W.alloc (.cells #[] 3)).ownsRow base 3 1 (.slice (some ⟨g,0,none⟩) 0 0) 0 (flat intE []):=by
 subst hg;exact YAU W #[] 0 hb (by unfold maxLen;omega) (by simp)
theorem ZfL (x:WayD)(v:Value)(base:Nat)(w:World)(ho:w.ownsRow base 3 1 v x.hops.length (flat intE x.hops))(hn:x.hops.length<=1048576):
  Calls Tryz.prog 121 #[.agg (wayC x v)] w fun e w'=>∃ v',e=.returned (.agg (wayC x v'))/\w'.ownsRow w.heap.size 3 1 v' x.hops.length (flat intE x.hops)/\Below w.heap.size w w':=by
 obtain⟨va,vc,rfl⟩:=Zac ho;have OW:=hide ho;clear ho
 go_enter Tryz.func121,Tryz.ntmps121
 unfold wayC
 go_wp2_with (first
  | (at_builtin;refine Zbw ZcS (by omega) Zcj (by omega) _ rfl _ _ 37 rfl (w.heap.size+2) 3 Tryz.underlying37 (.int .i64 0) rfl Tryz.info3 _ [] rfl ?own0 base _ x.hops rfl (((OW.out.alloc _).alloc _).alloc _) (by simp;omega) (by simp) ?_))
 case own0=>
  exact Zck _ _ _ (by simp) (by simp)
 intro v' w4 hown' hgrow;obtain⟨na,nc,rfl⟩:=Zac hown';simp only [Value.ownBlock] at hgrow;have hb4:Below w.heap.size w w4:=((((YAB w.heap.size w).alloc (by simp) _).alloc (by simp) _).alloc (by simp;omega) _).grown hgrow (by simp;omega) (fun k hk=>by simp at hk;omega);have q0:w4.heap[w.heap.size]? = some (.cells #[.int .i64 x.to,.int .i64 x.cost,.slice va x.hops.length vc] 144):=by
  rw [hgrow.block w.heap.size (by simp;omega) (by simp;omega),YAI _ _ _ (by simp;omega),YAI _ _ _ (by simp),YAE]
 have q1:w4.heap[w.heap.size+1]? = some (.cells #[.int .i64 0,.int .i64 0,.slice none 0 0] 144):=by
  rw [hgrow.block (w.heap.size+1) (by simp) (by simp),YAI _ _ _ (by simp)];have e:=YAE (w.alloc (.cells #[.int .i64 x.to,.int .i64 x.cost,.slice va x.hops.length vc] 144)) (.cells #[.int .i64 0,.int .i64 0,.slice none 0 0] 144);rw [show (w.alloc (.cells #[.int .i64 x.to,.int .i64 x.cost,.slice va x.hops.length vc] 144)).heap.size=w.heap.size+1 by simp] at e;exact e
 have r2:=Zaa q0 2;have f0:=Zae q0;simp at r2;have q2:=YAS w4 w.heap.size 2 _ _ (.slice na x.hops.length nc) q0;simp only [YAg,YAm,YAn] at q2;have q3:(w4.setCell ⟨w.heap.size,2,none⟩ (.slice na x.hops.length nc)).heap[w.heap.size+1]? = some (.cells #[.int .i64 0,.int .i64 0,.slice none 0 0] 144):=by
  rw [YAQ w4 ⟨w.heap.size,2,none⟩ _ _ (by show w.heap.size+1≠w.heap.size;omega)];exact q1
 have y0:=Zaa q2 0;have y1:=Zaa q2 1;have y2:=Zaa q2 2;simp at y0 y1 y2;have u0:=Zaa q3 0;have u1:=Zaa q3 1;have u2:=Zaa q3 2;simp at u0 u1 u2;have fu:=Zae q3;have F:=Zid x (.slice na x.hops.length nc) q3;have hown2:=ZaH (j:=2) (u:=.slice na x.hops.length nc) hown' (show w.heap.size<w.heap.size+2 by omega);have G8:=ZbH (w4.setCell ⟨w.heap.size,2,none⟩ (.slice na x.hops.length nc)) (w.heap.size+1) x (.slice na x.hops.length nc);have hown3:=Zaf (b0:=w.heap.size) (hown2.kept G8 (by
  cases hv:(Value.slice na x.hops.length nc).ownBlock with
  | none=>exact .inl rfl
  | some g=>exact .inr (fun e=>by have:=(hown2.lt g hv).1;simp at e;omega))) (by omega)
 have hb5:Below w.heap.size w (ZbJ (w4.setCell ⟨w.heap.size,2,none⟩ (.slice na x.hops.length nc)) (w.heap.size+1) x (.slice na x.hops.length nc)):=(hb4.setCell (p:=⟨w.heap.size,2,none⟩) (YA _) _).grown G8 (by have:=Zab q3;omega) (fun k hk=>by simp at hk;omega);have FF:=hide F;have H3:=hide hown3;have H5:=hide hb5;clear F hown3 hb5 hown2 G8 hb4 hown' hgrow q0 q1 q2 q3 OW
 go_wp2_with fail
 (try simp only [Exit.inBlock,Exit.then])
 refine bodyPost_ret (results_cell_row rfl _ _ (w.heap.size+1) 144 (wayC _ _) (0,0) _ rfl FF.out Tryz.underlying144 rfl (by kernel_rfl)) rfl ?_;exact⟨_,rfl,H3.out,H5.out⟩
theorem ZgE (ps:List WP):ps.Pairwise ZgA↔(ps.map (·.2)).Pairwise (fun a b:Value=>∀ k,a.ownBlock=some k->b.ownBlock≠some k):=by
 rw [YAY];exact Iff.rfl
theorem Zlc (h:ps.Pairwise ZgA){p q:WP}(hi:ps[i]? = some p)(hk:ps[k]? = some q)(hne:i≠k):ZgA p q:=by
 obtain⟨h1,e1⟩:=YAD.1 hi;obtain⟨h2,e2⟩:=YAD.1 hk;rw [YAf] at h;rcases Nat.lt_or_ge i k with hl | hl
 ·have:=h i k h1 h2 hl;rw [e1,e2] at this;exact this
 ·have:=h k i h2 h1 (by omega);rw [e1,e2] at this;exact fun j hj he=>this j he hj
theorem ZnG {p q:WP}(hk:ps[k]? = some p)(h:q.2=p.2):(ps.set k q).map (·.2)=ps.map (·.2):=by
 apply List.ext_getElem?;intro i;by_cases e:i=k
 ·subst e;obtain⟨h1,e1⟩:=YAD.1 hk;rw [YAZ,List.getElem?_set_self h1,YAZ,hk];simp [h]
 ·simp [List.getElem?_set_ne (Ne.symm e)]
theorem WaysOwn.turn {xs:List WP}{p q:WP}(h:WaysOwn W lo hi (.slice (some ⟨g,0,none⟩) n cap) xs)(hn:xs.length=n)(hk:xs[k]? = some p)(hq:q.2=p.2)
  (row:W8.ownsRow lo 144 3 (.slice (some ⟨g,0,none⟩) n cap) n (flat encW (xs.set k q))) (near:W8.ownsRow lo 3 1 q.2 q.1.hops.length (flat intE q.1.hops))
  (hkeep:∀ j,j<W.heap.size->j≠g->some j≠p.2.ownBlock->W8.heap[j]? = W.heap[j]?):WaysOwn W8 lo hi (.slice (some ⟨g,0,none⟩) n cap) (xs.set k q) where
 row:=by rw [List.length_set,hn];exact row
 top:=h.top
 apart:=by rw [ZgE,ZnG hk hq, <-ZgE];exact h.apart
 nears:=by
  intro r hr;obtain⟨i,hi,e⟩:=List.getElem_of_mem hr;have hr2:(xs.set k q)[i]? = some r:=by rw [<-e];exact YAA hi
  by_cases ek:i=k
  ·subst ek;rw [List.getElem?_set_self (by simpa using hi)] at hr2;cases hr2;refine⟨near,?_⟩;rw [hq];exact (h.nears p (YAF hk)).2
  ·rw [List.getElem?_set_ne (Ne.symm ek)] at hr2;have ho:=h.nears r (YAF hr2);refine⟨Zai ho.1 (fun j hj=>?_),ho.2⟩;refine hkeep j (ho.1.lt j hj).2 ?_ ?_
   ·rintro rfl;obtain⟨cur,hh⟩:∃ cur,W.heap[j]? = some (.cells cur 144 (0,0)):=by
     rcases h.row.2 with ⟨h0,_⟩ | ⟨g',cap',cur',hv',_,hh',_⟩
     ·cases h0
     ·cases hv';exact⟨cur',hh'⟩
    rcases ho.1.2 with ⟨h0,_⟩ | ⟨g',cap',cur',hv',_,hh',_⟩
    ·rw [h0] at hj;simp [Value.ownBlock] at hj
    ·rw [hv'] at hj;simp [Value.ownBlock] at hj;subst hj;rw [hh] at hh';simp at hh'
   ·intro he;exact Zlc h.apart hr2 hk ek j hj he.symm

theorem ZiS {α:Type}{enc:α->List Value}(hlen:∀ l:List α,(flat enc l).length=l.length*sz)(hpos:0<sz)(hbb:bytes<=100)(w:World)(hgd:o.guard=none)(s x:Operand)(t:TypeId)
  (ho:o.op=.call { callee:=.builtin .append,args:=#[s,x],argTypes:=#[t,t] }) (base:Nat) (e:TypeId) (ht:P.underlying t=some (.slice e)) (zv:Value) (hzv:zv.cells.size=sz)
  (hinfo:(P.info? e).map (fun i=>(i.zero,i.size,i.bytes))=some (some zv,sz,bytes))
  (v:Value) (l:List α) (hs:a.eval s=v) (hown:w.ownsRow base e sz v l.length (flat enc l))
  (base2:Nat) (v2:Value) (l2:List α) (hone:∀ a∈l2,∀ u∈enc a,u.oneCell'=true) (hx:a.eval x=v2) (hown2:w.ownsRow base2 e sz v2 l2.length (flat enc l2))
  (hl:l.length+l2.length<=1000000000) (hbase:base<=w.heap.size)
  (h:∀ v' w',w'.ownsRow base e sz v' (l++l2).length (flat enc (l++l2))->w.grownBy w' v.ownBlock->wpList P ops Q rest (a.put o.dst v') w'):wpList P ops Q (o::rest) a w:=by
 obtain⟨i0,hi,hz0,hz1,hz2⟩:=info_parts hinfo;rcases hown2.2 with ⟨e1,e2⟩ | ⟨g,cap,cur,e1,_⟩
 ·have e3:l2=[]:=YAq e2;subst e3;refine wpList_append_own_none hgd s x t ho base e i0 sz ht hi v l.length (flat enc l) hs hown (hx.trans e1) ?_;exact h v w (by simpa using hown) (ZeU w _)
 ·refine wpList_append_own w hgd s x t ho base e i0 zv sz bytes ht hi hz0 hz1 hz2 hzv hpos v l.length (flat enc l) hs hown ⟨g,0,none⟩ l2.length cap (flat enc l2) (hx.trans e1) (hlen l2) (hown2.cells (by rw [e1];rfl)) ?_ (by unfold maxLen;omega) ?_ hbase ?_
  ·intro u hu;simp only [flat,List.mem_flatMap] at hu;obtain⟨b,hbm,hb⟩:=hu;exact hone b hbm u hb
  ·have:(l.length+l2.length)*bytes<=1000000000*100:=Nat.mul_le_mul hl hbb;omega
  ·intro v' w' h1 h2 _;have e1:flat enc l++flat enc l2=flat enc (l++l2):=by rw [ZaQ]
   rw [e1] at h1;exact h v' w' (by simpa using h1) h2
theorem Zjc (l:Lk):∀ u∈lkE l,u.oneCell'=true:=by
 intro u hu;simp only [lkE,YAR,List.not_mem_nil,or_false] at hu;rcases hu with rfl | rfl | rfl | rfl <;> rfl
theorem Zfu {α:Type}{p:α->Bool}{ls:List α}{x:α}(h:ls[k]? = some x)(hp:p x=true):(ls.take (k+1)).filter p=(ls.take k).filter p++[x]:=by
 obtain⟨hk,e⟩:=YAD.1 h;rw [YAJ hk,List.filter_append,e];simp [hp]
theorem Zhv {α:Type}{p:α->Bool}{ls:List α}{x:α}(h:ls[k]? = some x)(hp:p x=false):(ls.take (k+1)).filter p=(ls.take k).filter p:=by
 obtain⟨hk,e⟩:=YAD.1 h;rw [YAJ hk,List.filter_append,e];simp [hp]
theorem Zft {α:Type}(p:α->Bool)(ls:List α)(k:Nat):((ls.take k).filter p).length<=ls.length:=by
 have h1:=List.length_filter_le p (ls.take k);have h2:=List.length_take_le k ls;have h3:(ls.take k).length<=ls.length:=by simp;omega
 omega
def Zd9 (ls:List Lk)(l:Lk):List Lk:=ls.filter (fun x=>Zbg x l)++[l]++ls.filter (fun x=>Zbg l x)
theorem Za3 {w w':World}{base size:Nat}{e:TypeId}(hown:w.ownsRow base e size v n xs)(hg:w.grownBy w' v.ownBlock){b:Nat}(hb:b<base)(hbw:b<w.heap.size):w'.heap[b]? = w.heap[b]? :=
 hg.block b hbw (fun he=>by have:=(hown.lt b he.symm).1;omega)
theorem ZeE (v:Value)(ls:List Lk)(l:Lk)(w:World)(hls:ls.length<=1000)(hv:ZaX w v ls w.heap.size):
  Calls Tryz.prog 56 #[v,lkV l] w fun e w'=>∃ x,e=.returned x/\w'.ownsRow (w.heap.size+1) 99 4 x (Zd9 ls l).length (flat lkE (Zd9 ls l))/\Below w.heap.size w w':=by
 obtain⟨a,cap,rfl⟩:=hv.shape;have HV:=hide hv;clear hv;obtain⟨la,lb,lc,lr⟩:=l;unfold lkV;simp only []
 go_enter Tryz.func56,Tryz.ntmps56
 go_wp2
 go_loopw [5,6] (fun u i wr=>∃ k:Nat,k<=ls.length/\i=.int .i64 k/\wr.ownsRow (w.heap.size+1) 99 4 u ((ls.take k).filter (fun x=>Zbg x ⟨la,lb,lc,lr⟩)).length (flat lkE ((ls.take k).filter (fun x=>Zbg x ⟨la,lb,lc,lr⟩)))/\Below w.heap.size w wr/\wr.heap[w.heap.size]? = some (.cells #[.int .i64 la,.int .i64 lb,.int .i64 lc,.int .i64 lr] 99)) (fun _ i _=>ls.length-(intOf i).toNat)
 case atStart=>
  refine⟨0,by omega,rfl,?_,?_,?_⟩
  ·have h:=YAU (base:=w.heap.size+1) (e:=99) (size:=4) (w.alloc (.cells #[.int .i64 la,.int .i64 lb,.int .i64 lc,.int .i64 lr] 99)) #[] 0 (by simp) (by decide) rfl;simpa [flat] using h
  ·exact ((YAB _ _).alloc (YA _) _).alloc (by simp) _
  ·rw [YAI _ _ _ (by simp),YAE]
 case round=>
  obtain⟨k,hk,rfl,hown,hb,hx⟩:=hrel;have hfl:=Zft (fun x=>Zbg x ⟨la,lb,lc,lr⟩) ls k;have hxl:=Zab hx;by_cases hlt:k<ls.length
  ·obtain ⟨x,hl⟩:∃ l,ls[k]? = some l:=⟨ls[k],YAA hlt⟩;obtain⟨b,off,cap',hve,hbb,c0,c1,c2,c3⟩:=HV.out.cells k x hl;cases hve;have d0:=c0;have d1:=c1;have d2:=c2;have d3:=c3;replace c0:=(hb.cell hbb).trans c0;replace c1:=(hb.cell hbb).trans c1;replace c2:=(hb.cell hbb).trans c2;replace c3:=(hb.cell hbb).trans c3;have g0:=Zaa hx 0;have g1:=Zaa hx 1;have g2:=Zaa hx 2;have g3:=Zaa hx 3;simp at g0 g1 g2 g3;have hzr:=hb.size;have hbr:b<wr.heap.size:=by omega
   have hki:(0:Int)<=(k:Int):=by omega
   have hkj:(k:Int)<(ls.length:Int):=by omega
   obtain⟨q,hq⟩:∃ q,q=Zbg x ⟨la,lb,lc,lr⟩:=⟨_,rfl⟩;have hah:=Ze2 x ⟨la,lb,lc,lr⟩;rw [<-hq] at hah;unfold lkV at hah;have HAH:=hide hah;have OW:=hide hown;have HX:=hide hx;have HL:=hide hl;have HQ:=hide hq;have D0:=hide d0;have D1:=hide d1;have D2:=hide d2;have D3:=hide d3;clear hah hown hx hl hq d0 d1 d2 d3;go_wp2
   go_region_held3 (fun W=>W.cell? ⟨b,off+k*4,none⟩=some (.int .i64 x.a)/\W.cell? ⟨b,off+k*4+1,none⟩=some (.int .i64 x.b)/\W.cell? ⟨b,off+k*4+2,none⟩=some (.int .i64 x.c)/\W.cell? ⟨b,off+k*4+3,none⟩=some (.int .i64 x.r)/\W.cell? ⟨w.heap.size,0,none⟩=some (.int .i64 la)/\W.cell? ⟨w.heap.size,1,none⟩=some (.int .i64 lb)/\W.cell? ⟨w.heap.size,2,none⟩=some (.int .i64 lc)/\W.cell? ⟨w.heap.size,3,none⟩=some (.int .i64 lr)) (first | go_keep | (refine ⟨?_,?_,?_,?_,?_,?_,?_,?_⟩ <;> (rw [hbc.cell (by assumption)];assumption))) (first | (go_at_call 77;refine (HAH.out _).mono ?_;rintro e w1 ⟨rfl,hbc⟩))
   have B1:Below w.heap.size w w1:=hb.drew.trans (hbc.mono hb.size);have hx1:w1.heap[w.heap.size]? = some (.cells #[.int .i64 la,.int .i64 lb,.int .i64 lc,.int .i64 lr] 99):=by rw [hbc.block _ hxl];exact HX.out
   have hown1:=Zad OW.out.drew hbc (YA _);have c0:=D0.out;have c1:=D1.out;have c2:=D2.out;have c3:=D3.out;replace c0:=(B1.cell hbb).trans c0;replace c1:=(B1.cell hbb).trans c1;replace c2:=(B1.cell hbb).trans c2;replace c3:=(B1.cell hbb).trans c3;have hxl1:=Zab hx1;have HX1:=hide hx1;have OW1:=hide hown1;clear hx1 hown1 hbc;cases q
   ·have hs:=Zhv (p:=fun x=>Zbg x ⟨la,lb,lc,lr⟩) HL.out HQ.out.symm;have HS:=hide hs;clear hs;go_wp2;go_roundw
    case rel=>exact ⟨k+1,by omega,by go_num,by rw [HS.out];exact OW1.out,B1,HX1.out⟩
    case measure=>simp [intOf];omega
   ·have hs:=Zfu (p:=fun x=>Zbg x ⟨la,lb,lc,lr⟩) HL.out HQ.out.symm;have HS:=hide hs;clear hs
    go_wp2_with (first
     | (at_builtin;refine Zaz Zhy (by omega) Zjc (by omega) _ rfl _ _ 78 rfl (w.heap.size+1) 99 Tryz.underlying78 (lkV lk0) rfl Tryz.infoLk u5 _ x rfl (OW1.out.alloc _) ⟨w1.heap.size,0,none⟩ 1 rfl (Zak (cs:=lkE x)) (by omega) (by simp;omega) ?_))
    intro v' w2 l' hl' hown' hgrow;have B2:Below w.heap.size w w2:=(B1.alloc B1.size _).grown hgrow (by simp;omega) (fun k hk=>by have:=(OW1.out.lt k hk).1;omega);have hx2:w2.heap[w.heap.size]? = some (.cells #[.int .i64 la,.int .i64 lb,.int .i64 lc,.int .i64 lr] 99):=by rw [Za3 (OW1.out.alloc _) hgrow (by omega) (by simp;omega),YAI _ _ _ hxl1];exact HX1.out
    have HX2:=hide hx2;have OW2:=hide hown';clear hx2 hown' hgrow;go_wp2;go_roundw
    case rel=>exact ⟨k+1,by omega,by go_num,by rw [HS.out, <-hl'.out];exact OW2.out,B2,HX2.out⟩
    case measure=>simp [intOf];omega
  ·have hk':k=ls.length:=by omega
   rw [hk',YAX] at hown;have g0:=Zaa hx 0;have g1:=Zaa hx 1;have g2:=Zaa hx 2;have g3:=Zaa hx 3;simp at g0 g1 g2 g3;have hzr:=hb.size;have hfl2:(ls.filter (fun x=>Zbg x ⟨la,lb,lc,lr⟩)).length<=ls.length:=List.length_filter_le _ _;have OW:=hide hown;have HX:=hide hx;clear hown hx hk';obtain⟨wo,rfl⟩:∃ wo:World,wo=wr:=⟨_,rfl⟩
   go_wp2_with (first
    | (at_builtin;refine Zaz Zhy (by omega) Zjc (by omega) _ rfl _ _ 78 rfl (w.heap.size+1) 99 Tryz.underlying78 (lkV lk0) rfl Tryz.infoLk u5 _ ⟨la,lb,lc,lr⟩ rfl (OW.out.alloc _) ⟨wo.heap.size,0,none⟩ 1 rfl (Zak (cs:=lkE ⟨la,lb,lc,lr⟩)) (by omega) (by simp;omega) ?_))
   intro v' w2 l' hl' hown' hgrow;have B2:Below w.heap.size w w2:=(hb.alloc hb.size _).grown hgrow (by simp;omega) (fun k hk=>by have:=(OW.out.lt k hk).1;omega);have hx2:w2.heap[w.heap.size]? = some (.cells #[.int .i64 la,.int .i64 lb,.int .i64 lc,.int .i64 lr] 99):=by rw [Za3 (OW.out.alloc _) hgrow (by omega) (by simp;omega),YAI _ _ _ hxl];exact HX.out
   have hll:l'.length<=ls.length+1:=by rw [hl'.out];simp;omega
   have HX2:=hide hx2;have OW2:=hide hown';clear hx2 hown' hgrow hlt;go_wp2
   go_loopw [5,7] (fun u i wr=>∃ k:Nat,k<=ls.length/\i=.int .i64 k/\wr.ownsRow (w.heap.size+1) 99 4 u (l'++(ls.take k).filter (fun x=>Zbg ⟨la,lb,lc,lr⟩ x)).length (flat lkE (l'++(ls.take k).filter (fun x=>Zbg ⟨la,lb,lc,lr⟩ x)))/\Below w.heap.size w wr/\wr.heap[w.heap.size]? = some (.cells #[.int .i64 la,.int .i64 lb,.int .i64 lc,.int .i64 lr] 99)) (fun _ i _=>ls.length-(intOf i).toNat)
   case atStart=>exact ⟨0,by omega,rfl,by simpa using OW2.out,B2,HX2.out⟩
   case round=>
    clear OW2 HX2 B2 OW HX hb g0 g1 g2 g3 hzr hxl;obtain⟨k,hk,rfl,hown,hb,hx⟩:=hrel;have hfl:=Zft (fun x=>Zbg ⟨la,lb,lc,lr⟩ x) ls k;have hfl3:(l'++(ls.take k).filter (fun x=>Zbg ⟨la,lb,lc,lr⟩ x)).length<=2*ls.length+1:=by rw [YAM];omega
    have hxl:=Zab hx;by_cases hlt:k<ls.length
    ·obtain ⟨x,hl⟩:∃ l,ls[k]? = some l:=⟨ls[k],YAA hlt⟩;obtain⟨b,off,cap',hve,hbb,c0,c1,c2,c3⟩:=HV.out.cells k x hl;cases hve;have d0:=c0;have d1:=c1;have d2:=c2;have d3:=c3;replace c0:=(hb.cell hbb).trans c0;replace c1:=(hb.cell hbb).trans c1;replace c2:=(hb.cell hbb).trans c2;replace c3:=(hb.cell hbb).trans c3;have g0:=Zaa hx 0;have g1:=Zaa hx 1;have g2:=Zaa hx 2;have g3:=Zaa hx 3;simp at g0 g1 g2 g3;have hzr:=hb.size;have hbr:b<wr.heap.size:=by omega
     have hki:(0:Int)<=(k:Int):=by omega
     have hkj:(k:Int)<(ls.length:Int):=by omega
     obtain⟨q,hq⟩:∃ q,q=Zbg ⟨la,lb,lc,lr⟩ x:=⟨_,rfl⟩;have hah:=Ze2 ⟨la,lb,lc,lr⟩ x;rw [<-hq] at hah;unfold lkV at hah;have HAH:=hide hah;have OW:=hide hown;have HX:=hide hx;have HL:=hide hl;have HQ:=hide hq;have D0:=hide d0;have D1:=hide d1;have D2:=hide d2;have D3:=hide d3;clear hah hown hx hl hq d0 d1 d2 d3;go_wp2
     go_region_held3 (fun W=>W.cell? ⟨b,off+k*4,none⟩=some (.int .i64 x.a)/\W.cell? ⟨b,off+k*4+1,none⟩=some (.int .i64 x.b)/\W.cell? ⟨b,off+k*4+2,none⟩=some (.int .i64 x.c)/\W.cell? ⟨b,off+k*4+3,none⟩=some (.int .i64 x.r)/\W.cell? ⟨w.heap.size,0,none⟩=some (.int .i64 la)/\W.cell? ⟨w.heap.size,1,none⟩=some (.int .i64 lb)/\W.cell? ⟨w.heap.size,2,none⟩=some (.int .i64 lc)/\W.cell? ⟨w.heap.size,3,none⟩=some (.int .i64 lr)) (first | go_keep | (refine ⟨?_,?_,?_,?_,?_,?_,?_,?_⟩ <;> (rw [hbc.cell (by assumption)];assumption))) (first | (go_at_call 77;refine (HAH.out _).mono ?_;rintro e w1 ⟨rfl,hbc⟩))
     have B1:Below w.heap.size w w1:=hb.drew.trans (hbc.mono hb.size);have hx1:w1.heap[w.heap.size]? = some (.cells #[.int .i64 la,.int .i64 lb,.int .i64 lc,.int .i64 lr] 99):=by rw [hbc.block _ hxl];exact HX.out
     have hown1:=Zad OW.out.drew hbc (YA _);have c0:=D0.out;have c1:=D1.out;have c2:=D2.out;have c3:=D3.out;replace c0:=(B1.cell hbb).trans c0;replace c1:=(B1.cell hbb).trans c1;replace c2:=(B1.cell hbb).trans c2;replace c3:=(B1.cell hbb).trans c3;have hxl1:=Zab hx1;have HX1:=hide hx1;have OW1:=hide hown1;clear hx1 hown1 hbc;cases q
     ·have hs:=Zhv (p:=fun x=>Zbg ⟨la,lb,lc,lr⟩ x) HL.out HQ.out.symm;have HS:=hide hs;clear hs;go_wp2;go_roundw
      case rel=>exact ⟨k+1,by omega,by go_num,by rw [HS.out];exact OW1.out,B1,HX1.out⟩
      case measure=>simp [intOf];omega
     ·have hs:=Zfu (p:=fun x=>Zbg ⟨la,lb,lc,lr⟩ x) HL.out HQ.out.symm;have HS:=hide hs;clear hs
      go_wp2_with (first
       | (at_builtin;refine Zaz Zhy (by omega) Zjc (by omega) _ rfl _ _ 78 rfl (w.heap.size+1) 99 Tryz.underlying78 (lkV lk0) rfl Tryz.infoLk u5 _ x rfl (OW1.out.alloc _) ⟨w1.heap.size,0,none⟩ 1 rfl (Zak (cs:=lkE x)) (by omega) (by simp;omega) ?_))
      intro v' w2 l2 hl2 hown' hgrow;have B2:Below w.heap.size w w2:=(B1.alloc B1.size _).grown hgrow (by simp;omega) (fun k hk=>by have:=(OW1.out.lt k hk).1;omega);have hx2:w2.heap[w.heap.size]? = some (.cells #[.int .i64 la,.int .i64 lb,.int .i64 lc,.int .i64 lr] 99):=by rw [Za3 (OW1.out.alloc _) hgrow (by omega) (by simp;omega),YAI _ _ _ hxl1];exact HX1.out
      have HX2:=hide hx2;have OW2:=hide hown';clear hx2 hown' hgrow;go_wp2;go_roundw
      case rel=>exact ⟨k+1,by omega,by go_num,by rw [HS.out];first | (rw [<-hl2.out];exact OW2.out) | (rw [<-List.append_assoc, <-hl2.out];exact OW2.out),B2,HX2.out⟩
      case measure=>simp [intOf];omega
    ·have hk':k=ls.length:=by omega
     rw [hk',YAX] at hown;have OW:=hide hown;clear hown hk';go_wp2;go_ret;exact⟨_,rfl,by unfold Zd9;rw [<-hl'.out];exact OW.out,hb⟩
theorem ZgC (ps:List JP):ps.Pairwise Zgz↔(ps.map (·.2)).Pairwise (fun a b:Value=>∀ k,a.ownBlock=some k->b.ownBlock≠some k):=by
 rw [YAY];exact Iff.rfl
theorem Zla {ps:List JP}(h:ps.Pairwise Zgz){p q:JP}(hi:ps[i]? = some p)(hk:ps[k]? = some q)(hne:i≠k):Zgz p q:=by
 obtain⟨h1,e1⟩:=YAD.1 hi;obtain⟨h2,e2⟩:=YAD.1 hk;rw [YAf] at h;rcases Nat.lt_or_ge i k with hl | hl
 ·have:=h i k h1 h2 hl;rw [e1,e2] at this;exact this
 ·have:=h k i h2 h1 (by omega);rw [e1,e2] at this;exact fun j hj he=>this j he hj
theorem ZnE {ps:List JP}{p q:JP}(hk:ps[k]? = some p)(h:q.2=p.2):(ps.set k q).map (·.2)=ps.map (·.2):=by
 apply List.ext_getElem?;intro i;by_cases e:i=k
 ·subst e;obtain⟨h1,e1⟩:=YAD.1 hk;rw [YAZ,List.getElem?_set_self h1,YAZ,hk];simp [h]
 ·simp [List.getElem?_set_ne (Ne.symm e)]
theorem LnsOwn.turn {xs:List JP}{p q:JP}(h:LnsOwn W lo hi (.slice (some ⟨g,0,none⟩) n cap) xs)(hn:xs.length=n)(hk:xs[k]? = some p)(hq:q.2=p.2)
  (row:W8.ownsRow lo 39 3 (.slice (some ⟨g,0,none⟩) n cap) n (flat encJ (xs.set k q))) (near:W8.ownsRow lo 3 1 q.2 q.1.hops.length (flat intE q.1.hops))
  (hkeep:∀ j,j<W.heap.size->j≠g->some j≠p.2.ownBlock->W8.heap[j]? = W.heap[j]?):LnsOwn W8 lo hi (.slice (some ⟨g,0,none⟩) n cap) (xs.set k q) where
 row:=by rw [List.length_set,hn];exact row
 top:=h.top
 apart:=by rw [ZgC,ZnE hk hq, <-ZgC];exact h.apart
 nears:=by
  intro r hr;obtain⟨i,hi,e⟩:=List.getElem_of_mem hr;have hr2:(xs.set k q)[i]? = some r:=by rw [<-e];exact YAA hi
  by_cases ek:i=k
  ·subst ek;rw [List.getElem?_set_self (by simpa using hi)] at hr2;cases hr2;refine⟨near,?_⟩;rw [hq];exact (h.nears p (YAF hk)).2
  ·rw [List.getElem?_set_ne (Ne.symm ek)] at hr2;have ho:=h.nears r (YAF hr2);refine⟨Zai ho.1 (fun j hj=>?_),ho.2⟩;refine hkeep j (ho.1.lt j hj).2 ?_ ?_
   ·rintro rfl;obtain⟨cur,hh⟩:∃ cur,W.heap[j]? = some (.cells cur 39 (0,0)):=by
     rcases h.row.2 with ⟨h0,_⟩ | ⟨g',cap',cur',hv',_,hh',_⟩
     ·cases h0
     ·cases hv';exact⟨cur',hh'⟩
    rcases ho.1.2 with ⟨h0,_⟩ | ⟨g',cap',cur',hv',_,hh',_⟩
    ·rw [h0] at hj;simp [Value.ownBlock] at hj
    ·rw [hv'] at hj;simp [Value.ownBlock] at hj;subst hj;rw [hh] at hh';simp at hh'
   ·intro he;exact Zla h.apart hr2 hk ek j hj he.symm
theorem Zek (a:Int):cmpN a a=0:=by unfold cmpN;simp
theorem ZgI :∀ xs:List Int,Za9 xs xs=0
 | []=>rfl
 | x::xs=>by simp only [Za9,Zek,if_true];exact ZgI xs
theorem Zcm (x y:Int)(xs ys:List Int):Za9 (x::xs) (y::ys)=if cmpN x y=0 then Za9 xs ys else cmpN x y:=rfl
theorem ZcN {x y:Int}{xs ys:List Int}:Za9 (x::xs) (y::ys)<0↔x<y\/(x=y/\Za9 xs ys<0):=by
 rw [Zcm];by_cases h:x=y
 ·subst h;rw [if_pos (Zek x)];constructor
  ·exact fun h=>.inr ⟨rfl,h⟩
  ·rintro (h | h)
   ·omega
   ·exact h.2
 ·rw [if_neg (fun e=>h (Zcq.1 e)),Zej];constructor
  ·exact .inl
  ·rintro (h2 | h2)
   ·exact h2
   ·exact absurd h2.1 h
theorem ZfH :∀ xs ys zs:List Int,Za9 xs ys<0->Za9 ys zs<0->Za9 xs zs<0
 | [],[],zs,h1,_=>by simp [Za9] at h1
 | [],y::ys,[],_,h2=>by simp [Za9] at h2
 | [],y::ys,z::zs,_,_=>by simp [Za9]
 | x::xs,[],zs,h1,_=>by simp [Za9] at h1
 | x::xs,y::ys,[],_,h2=>by simp [Za9] at h2
 | x::xs,y::ys,z::zs,h1,h2=>by
  rw [ZcN] at *;rcases h1 with h1 | ⟨h1,h3⟩ <;> rcases h2 with h2 | ⟨h2,h4⟩
  ·exact .inl (by omega)
  ·exact .inl (by omega)
  ·exact .inl (by omega)
  ·exact .inr ⟨by omega,ZfH xs ys zs h3 h4⟩
theorem Zfc :∀ xs ys zs:List Int,¬Za9 xs ys<0->¬Za9 ys zs<0->¬Za9 xs zs<0
 | xs,ys,[],_,_=>by cases xs <;> simp [Za9]
 | xs,[],z::zs,_,h2=>by simp [Za9] at h2
 | [],y::ys,z::zs,h1,_=>by simp [Za9] at h1
 | x::xs,y::ys,z::zs,h1,h2=>by
  rw [ZcN] at *;intro h;rcases Int.lt_trichotomy x y with h9 | h9 | h9
  ·exact h1 (.inl h9)
  ·subst h9;rcases Int.lt_trichotomy x z with h8 | h8 | h8
   ·exact h2 (.inl h8)
   ·subst h8;rcases h with h | ⟨_,h⟩
    ·omega
    ·exact Zfc xs ys zs (fun h=>h1 (.inr ⟨rfl,h⟩)) (fun h=>h2 (.inr ⟨rfl,h⟩)) h
   ·rcases h with h | ⟨h,_⟩ <;> omega
  ·rcases Int.lt_trichotomy y z with h8 | h8 | h8
   ·exact h2 (.inl h8)
   ·subst h8;rcases h with h | ⟨h,_⟩ <;> omega
   ·rcases h with h | ⟨h,_⟩ <;> omega
theorem ZgH :∀ xs ys:List Int,¬Za9 xs ys<0->¬Za9 ys xs<0->xs=ys
 | [],[],_,_=>rfl
 | [],y::ys,h1,_=>by simp [Za9] at h1
 | x::xs,[],_,h2=>by simp [Za9] at h2
 | x::xs,y::ys,h1,h2=>by
  rw [ZcN] at *;have h:x=y:=by
   rcases Int.lt_trichotomy x y with h9 | h9 | h9
   ·exact absurd (.inl h9) h1
   ·exact h9
   ·exact absurd (.inl h9) h2
  subst h;rw [ZgH xs ys (fun h=>h1 (.inr ⟨rfl,h⟩)) (fun h=>h2 (.inr ⟨rfl,h⟩))]
def ZkD (x:LnD):List Int:=(if x.thing then 1 else 0)::x.to::x.hops
theorem ZlO {x y:LnD}(h:ZkD x=ZkD y):x=y:=by
 obtain⟨a,b,c⟩:=x;obtain⟨d,e,f⟩:=y;unfold ZkD at h;simp only [List.cons.injEq] at h;obtain⟨h1,h2,h3⟩:=h;subst h2 h3;cases a <;> cases d <;> simp at h1 <;> rfl
theorem ZeC (x y:LnD):ZhD x y=Za9 (ZkD x) (ZkD y):=by
 obtain⟨a,b,c⟩:=x;obtain⟨d,e,f⟩:=y;have h2:orN [cmpN b e,Za9 c f]=Za9 (b::c) (e::f):=by
  rw [Zcm];unfold orN
  split
  ·unfold orN
   split
   ·rename_i h;rw [h];rfl
   ·rfl
  ·rfl
 unfold ZhD ZkD;simp only [];cases a <;> cases d <;> simp only [Bool.false_eq_true,if_true,if_false,and_self,and_false,false_and,and_true,true_and,reduceCtorEq]
 ·rw [h2,Zcm 0 0,if_pos (Zek 0)]
 ·rw [Zcm];rfl
 ·rw [Zcm];rfl
 ·rw [h2,Zcm 1 1,if_pos (Zek 1)]
theorem ZgW (x:LnD):ZhD x x=0:=by rw [ZeC,ZgI]
def ZcI (xs:List LnD):Prop:=xs.Pairwise (fun a b=>¬ZhD b a<0)
theorem Zgj :∀ (xs ys:List LnD),xs.Perm ys->ZcI xs->ZcI ys->xs=ys
 | [],ys,hp,_,_=>by rw [List.nil_perm.1 hp]
 | q::qs,[],hp,_,_=>by have:=hp.length_eq;simp at this
 | q::qs,m::ms,hp,hs,ha=>by
  unfold ZcI at hs ha;rw [YAh] at hs ha;have hqm:q=m:=by
   have h1:q∈m::ms:=hp.mem_iff.1 (by simp);have h2:m∈q::qs:=hp.mem_iff.2 (by simp);rcases YAR.1 h1 with h1 | h1
   ·exact h1
   ·rcases YAR.1 h2 with h2 | h2
    ·exact h2.symm
    ·have a1:=ha.1 q h1;have a2:=hs.1 m h2;rw [ZeC] at a1 a2;exact ZlO (ZgH _ _ a1 a2)
  subst hqm;rw [Zgj qs ms (List.Perm.cons_inv hp) hs.2 ha.2]
end Go.Proofs.YtdhnddfnckgbjaaGreat
