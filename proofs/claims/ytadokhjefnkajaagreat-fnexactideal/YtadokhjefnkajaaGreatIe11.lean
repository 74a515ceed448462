/-
  ICost CopyK RowsM IRecOk WaysL AppTwo
-/
import Derived.Test.YtadokhjefnkajaaGreatIe6
import Derived.Test.YtadokhjefnkajaaGreatIe9
import Derived.Deep.RegionHeld3
import Derived.Laws.StructEq
import Derived.Laws.AppendOwnNone
import Derived.Test.YtadokhjefnkajaaGreatIe4
namespace Go.Proofs.YtadokhjefnkajaaGreat
open Go.RowKit
set_option linter.unusedSimpArgs false
set_option linter.unusedVariables false
set_option maxRecDepth 100000
set_option maxHeartbeats 8000000
def Zmr (l:Lk):Value:=.agg #[.int .i64 l.a,.int .i64 l.b,.int .i64 l.c,.int .i64 l.r,.int .i64 l.b,.int .i64 l.a,.int .i64 l.c,.int .i64 l.r]
theorem ZhC (l:Lk)(w:World):Calls Tryz.prog 203 #[lkV l] w fun e w'=>e=.returned (Zmr l)/\Below w.heap.size w w':=by
 obtain⟨a,b,c,r⟩:=l;unfold lkV Zmr
 go_enter Tryz.func203,Tryz.ntmps203
 go_wp2
 go_returns
 exact⟨rfl,Zcc _ _ _⟩
theorem Zgu (w:World)(x0 x1 x2 x3 x4 x5 x6 x7:Value):(Instr.index 234 (.agg #[x0,x1,x2,x3,x4,x5,x6,x7]) (.int .i64 0)).run Tryz.prog w=.ok (.agg #[x0,x1,x2,x3]) w:=by
 rfl
theorem Zgv (w:World)(x0 x1 x2 x3 x4 x5 x6 x7:Value):(Instr.index 234 (.agg #[x0,x1,x2,x3,x4,x5,x6,x7]) (.int .i64 1)).run Tryz.prog w=.ok (.agg #[x4,x5,x6,x7]) w:=by
 rfl
theorem Zk7 (w:World)(a b c d a' b' c' d':Int):(binOp .eql 174 (.agg #[.int .i64 a,.int .i64 b,.int .i64 c,.int .i64 d]) (.agg #[.int .i64 a',.int .i64 b',.int .i64 c',.int .i64 d'])).run Tryz.prog w=.ok (.bool (decide (a=a'/\b=b'/\c=c'/\d=d'))) w:=by
 go_simp
 by_cases h1:a=a' <;> by_cases h2:b=b' <;> by_cases h3:c=c' <;> by_cases h4:d=d' <;> simp [h1,h2,h3,h4]
theorem ZfL {f t r la lb lc lr:Int}(h:la=f/\lb=t/\lr=r)(W:World):(binOp .eql 174 (.agg #[.int .i64 la,.int .i64 lb,.int .i64 lc,.int .i64 lr]) (.agg #[.int .i64 f,.int .i64 t,.int .i64 lc,.int .i64 r])).run Tryz.prog W=.ok (.bool true) W:=by
 rw [Zk7,decide_eq_true ⟨h.1,h.2.1,rfl,h.2.2⟩]
theorem Zh7 {f t r la lb lc lr:Int}(h:¬(la=f/\lb=t/\lr=r))(W:World):(binOp .eql 174 (.agg #[.int .i64 la,.int .i64 lb,.int .i64 lc,.int .i64 lr]) (.agg #[.int .i64 f,.int .i64 t,.int .i64 lc,.int .i64 r])).run Tryz.prog W=.ok (.bool false) W:=by
 rw [Zk7,decide_eq_false (fun g=>h ⟨g.1,g.2.1,g.2.2.2⟩)]
theorem ZmN (n:Value)(v tv:Value)(ls:List Lk)(f t r:Int)(w:World)(hls:ls.length<=1048576)(hv:ZaS w v ls w.heap.size):
  Calls Tryz.prog 146 #[.agg #[n,v,tv],.int .i64 f,.int .i64 t,.int .i64 r] w fun e w'=>e=.returned (.int .i64 (Zcw ls f t r))/\Below w.heap.size w w':=by
 obtain⟨a,cap,rfl⟩:∃ a cap,v=.slice a ls.length cap:=by obtain ⟨a,cap,h,_⟩:=hv;exact⟨a,cap,h⟩
 have HV:=hide hv;clear hv
 go_enter Tryz.func146,Tryz.ntmps146
 go_wp2
 go_loopw [17] (fun i wr=>∃ k:Nat,k<=ls.length/\i=.int .i64 k/\(∀ j,j<k->∀ l,ls[j]? = some l->Zbx f t r l=false)/\Below w.heap.size w wr) (fun i _=>ls.length-(intOf i).toNat)
 case atStart=>exact ⟨0,by omega,rfl,by omega,(Below.refl _ _).alloc (Nat.le_refl _) _⟩
 case round=>
  obtain⟨k,hk,rfl,hno,hb⟩:=hrel;have HNO:=hide hno;clear hno;by_cases hlt:k<ls.length
  ·obtain ⟨l,hl⟩:∃ l,ls[k]? = some l:=⟨ls[k],List.getElem?_eq_getElem hlt⟩
   obtain⟨b,off,cap',hve,hbb,c0,c1,c2,c3⟩:=HV.out.cells k l hl;cases hve
   rw [<-hb.cell (p:=⟨b,off+k*4,none⟩) hbb] at c0;rw [<-hb.cell (p:=⟨b,off+k*4+1,none⟩) hbb] at c1;rw [<-hb.cell (p:=⟨b,off+k*4+2,none⟩) hbb] at c2;rw [<-hb.cell (p:=⟨b,off+k*4+3,none⟩) hbb] at c3;have HL:=hide hl;have hbo:=ZhC l;clear hl;obtain⟨la,lb,lc,lr⟩:=l;unfold Zmr lkV at hbo;simp only [] at hbo
   have HBO:=hide hbo;clear hbo
   go_wp2_with fail
   refine (HBO.out _).mono ?_
   rintro e w1 ⟨rfl,b1⟩;have hp:w1.heap[wr.heap.size]? = some (.cells #[.int .i64 la,.int .i64 lb,.int .i64 lc,.int .i64 lr] 174):=by
    rw [b1.block _ (by simp;omega),Below.heap_alloc _ _ _ (by simp),heap_alloc_new]
   have hq:w1.heap[wr.heap.size+1]? = some (.cells #[.int .i64 f,.int .i64 t,.int .i64 lc,.int .i64 r] 174):=by
    rw [b1.block _ (by simp)]
    have:=heap_alloc_new (wr.alloc (.cells #[.int .i64 la,.int .i64 lb,.int .i64 lc,.int .i64 lr] 174)) (.cells #[.int .i64 f,.int .i64 t,.int .i64 lc,.int .i64 r] 174)
    simpa using this
   have hbr:=hb.size;have B1:Below w.heap.size w w1:=(hb.trans ((Zas _ _).mono hb.size)).trans (b1.mono (by simp;omega))
   have HP:=hide hp;have HQ:=hide hq;clear hp hq b1 c0 c1 c2 c3 hb;obtain⟨z,hz⟩:∃ z,z=wr.heap.size:=⟨_,rfl⟩;rw [<-hz] at HP HQ hbr |-;clear hz wr
   go_wp2
   go_loopw [29] (fun i wr=>∃ j:Nat,j<=2/\i=.int .i64 j/\(1<=j->¬(la=f/\lb=t/\lr=r))/\(2<=j->¬(lb=f/\la=t/\lr=r))/\Below w.heap.size w wr/\wr.heap[z]? = some (.cells #[.int .i64 la,.int .i64 lb,.int .i64 lc,.int .i64 lr] 174)/\wr.heap[z+1]? = some (.cells #[.int .i64 f,.int .i64 t,.int .i64 lc,.int .i64 r] 174)) (fun i _=>2-(intOf i).toNat)
   case atStart=>exact ⟨0,by omega,rfl,by omega,by omega,B1,HP.out,HQ.out⟩
   case round=>
    obtain⟨j,hj,rfl,hn1,hn2,hb,hp,hq⟩:=hrel;have HN1:=hide hn1;have HN2:=hide hn2;have p0:=Zaa hp 0;have p1:=Zaa hp 1;have p2:=Zaa hp 2;have p3:=Zaa hp 3;have q0:=Zaa hq 0;have q1:=Zaa hq 1;have q2:=Zaa hq 2;have q3:=Zaa hq 3;simp at p0 p1 p2 p3 q0 q1 q2 q3
    have hz1:=Zab hq;have hz0:=Zab hp;have HP:=hide hp;have HQ:=hide hq;clear hn1 hn2 hp hq;obtain rfl | rfl | rfl:j=0\/j=1\/j=2:=by omega
    ·have i0:=fun W=>Zgu W (.int .i64 la) (.int .i64 lb) (.int .i64 lc) (.int .i64 lr) (.int .i64 lb) (.int .i64 la) (.int .i64 lc) (.int .i64 lr)
     by_cases h:la=f/\lb=t/\lr=r
     ·have e0:=ZfL (lc:=lc) h
      have hh:Zbx f t r ⟨la,lb,lc,lr⟩=true:=by simp [Zbx,h.1,h.2.1,h.2.2]
      have HH:=hide hh;clear hh h
      go_wp2
      go_ret
      exact⟨Zet (ZhH HNO.out HL.out HH.out).symm,hb.alloc hb.size _⟩
     ·have e0:=Zh7 (lc:=lc) h
      have HH:=hide h;clear h
      go_wp2
      go_roundw
      case rel=>exact ⟨1,by omega,by go_num,fun _=>HH.out,by omega,hb.alloc hb.size _,by rw [Below.heap_alloc _ _ _ hz0];exact HP.out,by rw [Below.heap_alloc _ _ _ hz1];exact HQ.out⟩
      case measure=>simp [intOf]
    ·have i0:=fun W=>Zgv W (.int .i64 la) (.int .i64 lb) (.int .i64 lc) (.int .i64 lr) (.int .i64 lb) (.int .i64 la) (.int .i64 lc) (.int .i64 lr)
     by_cases h:lb=f/\la=t/\lr=r
     ·have e0:=ZfL (lc:=lc) h
      have hh:Zbx f t r ⟨la,lb,lc,lr⟩=true:=by simp [Zbx,h.1,h.2.1,h.2.2]
      have HH:=hide hh;clear hh h
      go_wp2
      go_ret
      exact⟨Zet (ZhH HNO.out HL.out HH.out).symm,hb.alloc hb.size _⟩
     ·have e0:=Zh7 (lc:=lc) h
      have HH:=hide h;clear h
      go_wp2
      go_roundw
      case rel=>exact ⟨2,by omega,by go_num,fun _=>HN1.out (by omega),fun _=>HH.out,hb.alloc hb.size _,by rw [Below.heap_alloc _ _ _ hz0];exact HP.out,by rw [Below.heap_alloc _ _ _ hz1];exact HQ.out⟩
      case measure=>simp [intOf]
    ·have hh:Zbx f t r ⟨la,lb,lc,lr⟩=false:=by
      have m1:=HN1.out (by omega)
      have m2:=HN2.out (by omega)
      simp only [Zbx]
      grind
     have HH:=hide hh;clear hh
     go_wp2
     exact⟨⟨k+1,by omega,by go_num,ZfY HNO.out HL.out HH.out,hb⟩,by simp [intOf];omega⟩
  ·have hk':k=ls.length:=by omega
   have HK:=hide hk';clear hk'
   go_wp2
   go_ret
   exact⟨Zet (ZiB HNO.out HK.out).symm,hb⟩
theorem ZkZ (a:Nr):∀ u∈nrE a,u.oneCell'=true:=by
 intro u hu;simp [nrE] at hu
 rcases hu with rfl | rfl <;> rfl
theorem Zdf {α:Type}{enc:α->List Value}{sz bytes:Nat}(hlen:∀ l:List α,(flat enc l).length=l.length*sz)(hpos:0<sz)(hone:∀ a,∀ u∈enc a,u.oneCell'=true)(hbb:bytes<=100){P:Program}(w:World){ops:Array Oper}{rest:List Oper}{o:Oper}{a:Act}{Q:Exit->Act->World->Prop}(hgd:o.guard=none)(s x:Operand)(t:TypeId)
  (ho:o.op=.call { callee:=.builtin .append,args:=#[s,x],argTypes:=#[t,t] }) (base:Nat) (e:TypeId) (ht:P.underlying t=some (.slice e)) (zv:Value) (hzv:zv.cells.size=sz)
  (hinfo:(P.info? e).map (fun i=>(i.zero,i.size,i.bytes))=some (some zv,sz,bytes))
  (v:Value) (l:List α) (hs:a.eval s=v) (hown:w.ownsRow base e sz v l.length (flat enc l))
  (base2:Nat) (v2:Value) (l2:List α) (hx:a.eval x=v2) (hown2:w.ownsRow base2 e sz v2 l2.length (flat enc l2))
  (hl:l.length+l2.length<=1000000000) (hbase:base<=w.heap.size)
  (h:∀ v' w',w'.ownsRow base e sz v' (l++l2).length (flat enc (l++l2))->w.grownBy w' v.ownBlock->wpList P ops Q rest (a.put o.dst v') w'):wpList P ops Q (o::rest) a w:=by
 obtain⟨i0,hi,hz0,hz1,hz2⟩:=info_parts hinfo
 rcases hown2.2 with ⟨e1,e2⟩ | ⟨g,cap,cur,e1,_⟩
 ·have e3:l2=[]:=List.eq_nil_of_length_eq_zero e2
  subst e3;refine wpList_append_own_none hgd s x t ho base e i0 sz ht hi v l.length (flat enc l) hs hown (hx.trans e1) ?_
  exact h v w (by simpa using hown) (Zbd w _)
 ·refine wpList_append_own w hgd s x t ho base e i0 zv sz bytes ht hi hz0 hz1 hz2 hzv hpos v l.length (flat enc l) hs hown ⟨g,0,none⟩ l2.length cap (flat enc l2) (hx.trans e1) (hlen l2) (hown2.cells (by rw [e1];rfl)) ?_ (by unfold maxLen;omega) ?_ hbase ?_
  ·intro u hu
   simp only [flat,List.mem_flatMap] at hu
   obtain⟨b,_,hb⟩:=hu;exact hone b u hb
  ·have:(l.length+l2.length)*bytes<=1000000000*100:=Nat.mul_le_mul hl hbb
   omega
  ·intro v' w' h1 h2 _
   have e1:flat enc l++flat enc l2=flat enc (l++l2):=by rw [ZaH]
   rw [e1] at h1;exact h v' w' (by simpa using h1) h2
abbrev ZlV (W:World) (g:Nat) (x:RecD) (v:Value):World:=(((((((W.setCell ⟨g,0,none⟩ (.int .i64 x.area)).setCell ⟨g,1,none⟩ (.int .i64 x.kind)).setCell ⟨g,2,none⟩ (.int .i64 x.owner)).setCell ⟨g,3,none⟩ (.int .i64 x.key)).setCell ⟨g,4,none⟩ (.int .i64 x.seq)).setCell ⟨g,5,none⟩ v).setCell ⟨g,6,none⟩ (.int .i64 x.cost)).setCell ⟨g,7,none⟩ (.bool x.far)
theorem ZpB {W:World}{B0:Nat}{c0 c1 c2 c3 c4 c5 c6 c7:Value}(x:RecD)(v:Value)(hr:W.heap[B0]? = some (.cells #[c0,c1,c2,c3,c4,c5,c6,c7] 39)):
  (ZlV W B0 x v).heap[B0]? = some (.cells (recC x v) 39):=by
 have k1:=heap_setCell_same _ _ 0 _ _ (.int .i64 x.area) hr;have k2:=heap_setCell_same _ _ 1 _ _ (.int .i64 x.kind) k1;have k3:=heap_setCell_same _ _ 2 _ _ (.int .i64 x.owner) k2;have k4:=heap_setCell_same _ _ 3 _ _ (.int .i64 x.key) k3;have k5:=heap_setCell_same _ _ 4 _ _ (.int .i64 x.seq) k4;have k6:=heap_setCell_same _ _ 5 _ _ v k5;have k7:=heap_setCell_same _ _ 6 _ _ (.int .i64 x.cost) k6;have k8:=heap_setCell_same _ _ 7 _ _ (.bool x.far) k7;simp only [List.setIfInBounds_toArray,List.set_cons_zero,List.set_cons_succ] at k8
 unfold ZlV recC;exact k8
theorem ZjF (W:World)(g:Nat)(x:RecD)(v:Value):W.grownBy (ZlV W g x v) (some g):=
 Zah (Zah (Zah (Zah (Zah (Zah (Zah (Zaq W g _ _) (Zaq _ g _ _)) (Zaq _ g _ _)) (Zaq _ g _ _)) (Zaq _ g _ _)) (Zaq _ g _ _)) (Zaq _ g _ _)) (Zaq _ g _ _)
theorem ZoF (l:List Nr):(flat nrE l).length=l.length*2:=ZaF Zgl l
theorem Znj (W:World)(g base:Nat)(hg:g=W.heap.size)(hb:base<=W.heap.size):(W.alloc (.cells #[] 107)).ownsRow base 107 2 (.slice (some ⟨g,0,none⟩) 0 0) 0 (flat nrE []):=by
 subst hg;exact World.ownsRow_lit W #[] 0 hb (by unfold maxLen;omega) (by simp)
theorem Zmv (x:RecD)(v:Value)(base:Nat)(w:World)(ho:w.ownsRow base 107 2 v x.near.length (flat nrE x.near))(hn:x.near.length<=1048576):
  Calls Tryz.prog 67 #[.agg (recC x v)] w fun e w'=>∃ v',e=.returned (.agg (recC x v'))/\w'.ownsRow w.heap.size 107 2 v' x.near.length (flat nrE x.near)/\Below w.heap.size w w':=by
 obtain⟨va,vc,rfl⟩:=Zac ho;have OW:=hide ho;clear ho
 go_enter Tryz.func67,Tryz.ntmps67
 unfold recC
 go_wp2_with (first
  | (at_builtin;refine Zdf ZoF (by omega) ZkZ (by omega) _ rfl _ _ 37 rfl (w.heap.size+2) 107 Tryz.underlying37 (nrV nr0) rfl Tryz.infoNr _ [] rfl ?own0 base _ x.near rfl (((OW.out.alloc _).alloc _).alloc _) (by simp;omega) (by simp) ?_))
 case own0=>
  exact Znj _ _ _ (by simp) (by simp)
 intro v' w4 hown' hgrow;obtain⟨na,nc,rfl⟩:=Zac hown';simp only [Value.ownBlock] at hgrow
 have hb4:Below w.heap.size w w4:=((((Below.refl w.heap.size w).alloc (by simp) _).alloc (by simp) _).alloc (by simp;omega) _).grown hgrow (by simp;omega) (fun k hk=>by simp at hk;omega)
 have q0:w4.heap[w.heap.size]? = some (.cells #[.int .i64 x.area,.int .i64 x.kind,.int .i64 x.owner,.int .i64 x.key,.int .i64 x.seq,.slice va x.near.length vc,.int .i64 x.cost,.bool x.far] 39):=by
  rw [hgrow.block w.heap.size (by simp;omega) (by simp;omega),Below.heap_alloc _ _ _ (by simp;omega),Below.heap_alloc _ _ _ (by simp),heap_alloc_new]
 have q1:w4.heap[w.heap.size+1]? = some (.cells #[.int .i64 0,.int .i64 0,.int .i64 0,.int .i64 0,.int .i64 0,.slice none 0 0,.int .i64 0,.bool false] 39):=by
  rw [hgrow.block (w.heap.size+1) (by simp) (by simp),Below.heap_alloc _ _ _ (by simp)]
  have e:=heap_alloc_new (w.alloc (.cells #[.int .i64 x.area,.int .i64 x.kind,.int .i64 x.owner,.int .i64 x.key,.int .i64 x.seq,.slice va x.near.length vc,.int .i64 x.cost,.bool x.far] 39)) (.cells #[.int .i64 0,.int .i64 0,.int .i64 0,.int .i64 0,.int .i64 0,.slice none 0 0,.int .i64 0,.bool false] 39);rw [show (w.alloc (.cells #[.int .i64 x.area,.int .i64 x.kind,.int .i64 x.owner,.int .i64 x.key,.int .i64 x.seq,.slice va x.near.length vc,.int .i64 x.cost,.bool x.far] 39)).heap.size=w.heap.size+1 by simp] at e
  exact e
 have r5:=Zaa q0 5;have f0:=Zaf q0;simp at r5
 have q2:=heap_setCell_same w4 w.heap.size 5 _ _ (.slice na x.near.length nc) q0;simp only [List.setIfInBounds_toArray,List.set_cons_zero,List.set_cons_succ] at q2
 have q3:(w4.setCell ⟨w.heap.size,5,none⟩ (.slice na x.near.length nc)).heap[w.heap.size+1]? = some (.cells #[.int .i64 0,.int .i64 0,.int .i64 0,.int .i64 0,.int .i64 0,.slice none 0 0,.int .i64 0,.bool false] 39):=by
  rw [heap_setCell_other w4 ⟨w.heap.size,5,none⟩ _ _ (by show w.heap.size+1≠w.heap.size;omega)];exact q1
 have y0:=Zaa q2 0;have y1:=Zaa q2 1;have y2:=Zaa q2 2;have y3:=Zaa q2 3;have y4:=Zaa q2 4;have y5:=Zaa q2 5;have y6:=Zaa q2 6;have y7:=Zaa q2 7;simp at y0 y1 y2 y3 y4 y5 y6 y7
 have u0:=Zaa q3 0;have u1:=Zaa q3 1;have u2:=Zaa q3 2;have u3:=Zaa q3 3;have u4:=Zaa q3 4;have u5:=Zaa q3 5;have u6:=Zaa q3 6;have u7:=Zaa q3 7;simp at u0 u1 u2 u3 u4 u5 u6 u7
 have fu:=Zaf q3;have F:=ZpB x (.slice na x.near.length nc) q3;have hown2:=Zbe (j:=5) (u:=.slice na x.near.length nc) hown' (show w.heap.size<w.heap.size+2 by omega)
 have G8:=ZjF (w4.setCell ⟨w.heap.size,5,none⟩ (.slice na x.near.length nc)) (w.heap.size+1) x (.slice na x.near.length nc);have hown3:=Zaj (b0:=w.heap.size) (hown2.kept G8 (by
  cases hv:(Value.slice na x.near.length nc).ownBlock with
  | none=>exact .inl rfl
  | some g=>exact .inr (fun e=>by have:=(hown2.lt g hv).1;simp at e;omega))) (by omega)
 have hb5:Below w.heap.size w (ZlV (w4.setCell ⟨w.heap.size,5,none⟩ (.slice na x.near.length nc)) (w.heap.size+1) x (.slice na x.near.length nc)):=(hb4.setCell (p:=⟨w.heap.size,5,none⟩) (Nat.le_refl _) _).grown G8 (by have:=Zab q3;omega) (fun k hk=>by simp at hk;omega)
 have FF:=hide F;have H3:=hide hown3;have H5:=hide hb5;clear F hown3 hb5 hown2 G8 hb4 hown' hgrow q0 q1 q2 q3 OW
 go_wp2_with fail
 (try simp only [Exit.inBlock,Exit.then])
 refine bodyPost_ret (results_cell_row rfl _ _ (w.heap.size+1) 39 (recC _ _) (0,0) _ rfl FF.out Tryz.underlying39 rfl (by kernel_rfl)) rfl ?_
 exact⟨_,rfl,H3.out,H5.out⟩
def mkR (c:Int)(p:RP):RP:=(⟨c,c+1,c+1+1,c+1+1+1,c+1+1+1+1,Zge (c+1+1+1+1+1) p.1.near.length,c+1+1+1+1+1+2*(p.1.near.length:Int),(c+1+1+1+1+1+2*(p.1.near.length:Int)+1)%3==0⟩,p.2)
def nxR (c:Int)(p:RP):Int:=c+1+1+1+1+1+2*(p.1.near.length:Int)+1+1
def mkL:Int->List RP->List RP
 | _,[]=>[]
 | c,p::ps=>mkR c p::mkL (nxR c p) ps
def mkE:Int->List RP->Int
 | c,[]=>c
 | c,p::ps=>mkE (nxR c p) ps
theorem Zdl (c:Int)(ps:List RP):(mkL c ps).length=ps.length:=by
 induction ps generalizing c with
 | nil=>rfl
 | cons p ps ih=>simp [mkL,ih]
theorem ZlL (c:Int)(a b:List RP):mkE c (a++b)=mkE (mkE c a) b:=by
 induction a generalizing c with
 | nil=>rfl
 | cons p a ih=>exact ih _
theorem Zg5 (c:Int)(a b:List RP):mkL c (a++b)=mkL c a++mkL (mkE c a) b:=by
 induction a generalizing c with
 | nil=>rfl
 | cons p a ih=>simp only [List.cons_append,mkL,mkE,ih]
theorem ZkU {ps:List RP}{k:Nat}{p:RP}(c:Int)(h:ps[k]? = some p):mkE c (ps.take (k+1))=nxR (mkE c (ps.take k)) p:=by
 obtain⟨hk,e⟩:=List.getElem?_eq_some_iff.1 h;rw [List.take_succ_eq_append_getElem hk,ZlL,e]
 rfl
theorem Zoz {ps:List RP}{k:Nat}{p:RP}(c:Int)(h:ps[k]? = some p):mkL c (ps.take (k+1))=mkL c (ps.take k)++[mkR (mkE c (ps.take k)) p]:=by
 obtain⟨hk,e⟩:=List.getElem?_eq_some_iff.1 h;rw [List.take_succ_eq_append_getElem hk,Zg5,e]
 rfl
theorem Zj4 (c:Int)(ps:List RP):c+2*(tot ps:Int)<=mkE c ps/\mkE c ps<=c+7*(tot ps:Int):=by
 induction ps generalizing c with
 | nil=>simp [mkE,tot]
 | cons p ps ih=>
  have h:=ih (nxR c p);rw [Zb9];simp only [mkE]
  unfold nxR at h |-;omega
theorem Zhm (ps:List RP)(k:Nat):tot (ps.take k)<=tot ps:=by
 have h:=ZcE (ps.take k) (ps.drop k);rw [List.take_append_drop] at h;omega
theorem mkL_at {ps:List RP}{k:Nat}{p:RP}(c:Int)(h:ps[k]? = some p):(mkL c ps)[k]? = some (mkR (mkE c (ps.take k)) p):=by
 obtain⟨hk,e⟩:=List.getElem?_eq_some_iff.1 h;have e2:ps=ps.take k++(p::ps.drop (k+1)):=by
  rw [<-e];simp
 have e3:mkL c ps=mkL c (ps.take k)++(mkR (mkE c (ps.take k)) p::mkL (nxR (mkE c (ps.take k)) p) (ps.drop (k+1))):=by
  conv=>lhs;rw [e2]
  rw [Zg5]
  rfl
 rw [e3,List.getElem?_append_right (by rw [Zdl,List.length_take];omega),Zdl,List.length_take,Nat.min_eq_left (by omega),Nat.sub_self]
 rfl
theorem Ziq (ps:List RP):ps.Pairwise Zd4↔(ps.map (·.2)).Pairwise (fun a b:Value=>∀ k,a.ownBlock=some k->b.ownBlock≠some k):=by
 rw [List.pairwise_map];exact Iff.rfl
theorem Zn0 {ps:List RP}(h:ps.Pairwise Zd4){i k:Nat}{p q:RP}(hi:ps[i]? = some p)(hk:ps[k]? = some q)(hne:i≠k):Zd4 p q:=by
 obtain⟨h1,e1⟩:=List.getElem?_eq_some_iff.1 hi;obtain⟨h2,e2⟩:=List.getElem?_eq_some_iff.1 hk;rw [List.pairwise_iff_getElem] at h
 rcases Nat.lt_or_ge i k with hl | hl
 ·have:=h i k h1 h2 hl
  rw [e1,e2] at this;exact this
 ·have:=h k i h2 h1 (by omega)
  rw [e1,e2] at this;exact fun j hj he=>this j he hj
theorem ZpW {ps:List RP}{k:Nat}{p q:RP}(hk:ps[k]? = some p)(h:q.2=p.2):(ps.set k q).map (·.2)=ps.map (·.2):=by
 apply List.ext_getElem?
 intro i;by_cases e:i=k
 ·subst e
  obtain⟨h1,e1⟩:=List.getElem?_eq_some_iff.1 hk;rw [List.getElem?_map,List.getElem?_set_self h1,List.getElem?_map,hk];simp [h]
 ·simp [List.getElem?_set_ne (Ne.symm e)]
theorem RecsOwn.turn {W W8:World}{lo hi g n cap k:Nat}{xs:List RP}{p q:RP}(h:RecsOwn W lo hi (.slice (some ⟨g,0,none⟩) n cap) xs)(hn:xs.length=n)(hk:xs[k]? = some p)(hq:q.2=p.2)
  (row:W8.ownsRow lo 39 8 (.slice (some ⟨g,0,none⟩) n cap) n (flat encP (xs.set k q))) (near:W8.ownsRow lo 107 2 q.2 q.1.near.length (flat nrE q.1.near))
  (hkeep:∀ j,j<W.heap.size->j≠g->some j≠p.2.ownBlock->W8.heap[j]? = W.heap[j]?):RecsOwn W8 lo hi (.slice (some ⟨g,0,none⟩) n cap) (xs.set k q) where
 row:=by rw [List.length_set,hn];exact row
 top:=h.top
 apart:=by rw [Ziq,ZpW hk hq, <-Ziq];exact h.apart
 nears:=by
  intro r hr;obtain⟨i,hi,e⟩:=List.getElem_of_mem hr;have hr2:(xs.set k q)[i]? = some r:=by rw [<-e];exact List.getElem?_eq_getElem hi
  by_cases ek:i=k
  ·subst ek
   rw [List.getElem?_set_self (by simpa using hi)] at hr2
   cases hr2
   refine⟨near,?_⟩
   rw [hq];exact (h.nears p (List.mem_of_getElem? hk)).2
  ·rw [List.getElem?_set_ne (Ne.symm ek)] at hr2
   have ho:=h.nears r (List.mem_of_getElem? hr2);refine⟨Zan ho.1 (fun j hj=>?_),ho.2⟩
   refine hkeep j (ho.1.lt j hj).2 ?_ ?_
   ·rintro rfl
    obtain⟨cur,hh⟩:∃ cur,W.heap[j]? = some (.cells cur 39 (0,0)):=by
     rcases h.row.2 with ⟨h0,_⟩ | ⟨g',cap',cur',hv',_,hh',_⟩
     ·cases h0
     ·cases hv';exact⟨cur',hh'⟩
    rcases ho.1.2 with ⟨h0,_⟩ | ⟨g',cap',cur',hv',_,hh',_⟩
    ·rw [h0] at hj;simp [Value.ownBlock] at hj
    ·rw [hv'] at hj
     simp [Value.ownBlock] at hj
     subst hj;rw [hh] at hh';simp at hh'
   ·intro he
    exact Zn0 h.apart hr2 hk ek j hj he.symm
theorem set7 {xs:List RP}{k:Nat}{p q:RP}(hk:xs[k]? = some p)(hq:q.2=p.2):
  ((((((((flat encP xs).set (k*8) (.int .i64 q.1.area)).set (k*8+1) (.int .i64 q.1.kind)).set (k*8+2) (.int .i64 q.1.owner)).set (k*8+3) (.int .i64 q.1.key)).set (k*8+4) (.int .i64 q.1.seq)).set (k*8+6) (.int .i64 q.1.cost)).set (k*8+7) (.bool q.1.far))=flat encP (xs.set k q):=by
 obtain⟨hlt,_⟩:=List.getElem?_eq_some_iff.1 hk;have e:(((((((((flat encP xs).set (k*8) (.int .i64 q.1.area)).set (k*8+1) (.int .i64 q.1.kind)).set (k*8+2) (.int .i64 q.1.owner)).set (k*8+3) (.int .i64 q.1.key)).set (k*8+4) (.int .i64 q.1.seq)).set (k*8+5) q.2).set (k*8+6) (.int .i64 q.1.cost)).set (k*8+7) (.bool q.1.far))=flat encP (xs.set k q):=Zcr Zav xs k q hlt;rw [<-e]
 congr 2
 have h5:((((((flat encP xs).set (k*8) (.int .i64 q.1.area)).set (k*8+1) (.int .i64 q.1.kind)).set (k*8+2) (.int .i64 q.1.owner)).set (k*8+3) (.int .i64 q.1.key)).set (k*8+4) (.int .i64 q.1.seq))[k*8+5]? = some q.2:=by
  rw [List.getElem?_set_ne (by omega),List.getElem?_set_ne (by omega),List.getElem?_set_ne (by omega),List.getElem?_set_ne (by omega),List.getElem?_set_ne (by omega),ZcV Zav xs k 5 p hk (by omega),hq]
  rfl
 obtain⟨h6,e6⟩:=List.getElem?_eq_some_iff.1 h5;rw [<-e6];exact (List.set_getElem_self h6).symm
theorem Zat {W:World}{base size n z:Nat}{e t:TypeId}{v:Value}{xs:List Value}{C:Array Value}{fr:Nat × Nat}(ho:W.ownsRow base e size v n xs)(h:W.heap[z]? = some (.cells C t fr))(hne:e≠t):some z≠v.ownBlock:=by
 intro eq
 rcases ho.2 with ⟨h1,_⟩ | ⟨g',cap',cur',hv',_,hh',_⟩
 ·rw [h1] at eq;simp [Value.ownBlock] at eq
 ·rw [hv'] at eq
  simp [Value.ownBlock] at eq
  subst eq;rw [h] at hh';simp at hh'
  exact hne hh'.2.1.symm
abbrev set5 (W:World) (g o:Nat) (z:Int):World:=((((W.setCell ⟨g,o,none⟩ (.int .i64 z)).setCell ⟨g,o+1,none⟩ (.int .i64 (z+1))).setCell ⟨g,o+2,none⟩ (.int .i64 (z+1+1))).setCell ⟨g,o+3,none⟩ (.int .i64 (z+1+1+1))).setCell ⟨g,o+4,none⟩ (.int .i64 (z+1+1+1+1))
theorem Zl2 (W:World)(g o:Nat)(z:Int):W.grownBy (set5 W g o z) (some g):=
 Zah (Zah (Zah (Zah (Zaq W g _ _) (Zaq _ g _ _)) (Zaq _ g _ _)) (Zaq _ g _ _)) (Zaq _ g _ _)
theorem Zgd (v:Value)(lo hi:Nat)(ps:List RP)(c:Int)(w:World)(h:RecsOwn w lo hi v ps)(hn:tot ps<=1048576)(hc:0<=c)(hc2:c<=10000000):
  Calls Tryz.prog 32 #[v,.int .i64 c] w fun e w'=>e=.returned (.int .i64 (mkE c ps))/\RecsOwn w' lo hi v (mkL c ps)/\Frame lo hi w w':=by
 have hnl:=Zbh ps;by_cases h0:ps.length=0
 ·have hps:ps=[]:=List.length_eq_zero_iff.1 h0
  subst hps;obtain⟨a1,c1,rfl⟩:=Zac h.row;have H1:=hide h;clear h
  go_enter Tryz.func32,Tryz.ntmps32
  go_wp2
  refine wp_loop_rounds 1 ?_
  rw [rounds_succ]
  go_wp2
  go_ret
  exact⟨rfl,H1.out,Frame.refl _ _ _⟩
 ·obtain ⟨g,cap,rfl,hg1,hl1⟩:=ZbQ h.row (by omega)
  have H1:=hide h;have HG:=hide (h.top g rfl);clear h h0
  go_enter Tryz.func32,Tryz.ntmps32
  go_wp2
  go_loopw [5,1] (fun i r wr=>∃ (k:Nat),k<=ps.length/\i=.int .i64 k/\r=.int .i64 (mkE c (ps.take k))/\RecsOwn wr lo hi (.slice (some ⟨g,0,none⟩) ps.length cap) (mkL c (ps.take k)++ps.drop k)/\Frame lo hi w wr) (fun i _ _=>ps.length-(intOf i).toNat)
  case atStart=>exact ⟨0,by omega,rfl,rfl,H1.out,Frame.refl _ _ _⟩
  case round=>
   clear H1;obtain⟨k,hk,rfl,rfl,hown,hnx⟩:=hrel;by_cases hlt:k<ps.length
   ·obtain ⟨p,hp⟩:∃ p,ps[k]? = some p:=⟨ps[k],List.getElem?_eq_getElem hlt⟩
    have hki:(0:Int)<=(k:Int):=by omega
    have hkj:(k:Int)<(ps.length:Int):=by omega
    have ht1:=Zhm ps k;have ht2:=Zj4 c (ps.take k);have hpl:=ZdN (List.mem_of_getElem? hp);obtain⟨z,hz⟩:∃ z,z=mkE c (ps.take k):=⟨_,rfl⟩;rw [<-hz] at ht2 |-;have hz0:0<=z:=by omega
    have hz2:z<=100000000:=by omega
    obtain⟨xs,hxs⟩:∃ xs,xs=mkL c (ps.take k)++ps.drop k:=⟨_,rfl⟩;rw [<-hxs] at hown;have hxl:xs.length=ps.length:=by rw [hxs];simp [Zdl];omega
    have hxk:xs[k]? = some p:=by
     rw [hxs,List.getElem?_append_right (by rw [Zdl,List.length_take];omega),Zdl,List.length_take,Nat.min_eq_left (by omega),Nat.sub_self,List.getElem?_drop,Nat.add_zero]
     exact hp
    have hstep:xs.set k (mkR z p)=mkL c (ps.take (k+1))++ps.drop (k+1):=by
     have ed:ps.drop k=p::ps.drop (k+1):=by
      obtain⟨h1,e1⟩:=List.getElem?_eq_some_iff.1 hp;rw [List.drop_eq_getElem_cons h1,e1]
     rw [hxs,Zoz c hp, <-hz,List.set_append_right _ _ (by rw [Zdl,List.length_take];omega),Zdl,List.length_take,Nat.min_eq_left (by omega),Nat.sub_self,ed,List.set_cons_zero]
     simp
    have hnext:mkE c (ps.take (k+1))=nxR z p:=by rw [ZkU c hp,hz]
    have hrow:=hown.row;rw [hxl] at hrow;have hex:∀ r,r<8->∃ u,wr.cell? ⟨g,k*8+r,none⟩=some u:=fun r hr=>ZaG hrow _ (by omega)
    obtain⟨u0,d0⟩:=hex 0 (by omega)
    obtain⟨u1,d1⟩:=hex 1 (by omega)
    obtain⟨u2,d2⟩:=hex 2 (by omega)
    obtain⟨u3,d3⟩:=hex 3 (by omega)
    obtain⟨u4,d4⟩:=hex 4 (by omega)
    obtain⟨u6,d6⟩:=hex 6 (by omega)
    obtain⟨u7,d7⟩:=hex 7 (by omega)
    rw [Nat.add_zero] at d0;have d5:wr.cell? ⟨g,k*8+5,none⟩=some p.2:=by
     rw [hrow.cellAt _ (by omega),ZcV Zav xs k 5 p hxk (by omega)]
     rfl
    have f0:=hrow.frozenAt (k*8);have f1:=hrow.frozenAt (k*8+1);have f2:=hrow.frozenAt (k*8+2);have f3:=hrow.frozenAt (k*8+3);have f4:=hrow.frozenAt (k*8+4);have f5:=hrow.frozenAt (k*8+5);have f6:=hrow.frozenAt (k*8+6);have f7:=hrow.frozenAt (k*8+7);have hnear:=(hown.nears p (List.mem_of_getElem? hxk)).1;obtain⟨na,nc,hpn⟩:=Zac hnear;rw [hpn] at d5;have hzr:w.heap.size<=wr.heap.size:=hnx.size;obtain⟨curg,hcurg⟩:∃ cur,wr.heap[g]? = some (.cells cur 39 (0,0)):=by
     rcases hrow.2 with ⟨h0,_⟩ | ⟨g',cap',cur',hv',_,hh',_⟩
     ·cases h0
     ·cases hv';exact⟨cur',hh'⟩
    have hgne:some g≠p.2.ownBlock:=Zat hnear hcurg (by decide)
    rw [hpn] at hnear hgne;have row5:=((((hrow.stored (k*8) (.int .i64 z)).1.stored (k*8+1) (.int .i64 (z+1))).1.stored (k*8+2) (.int .i64 (z+1+1))).1.stored (k*8+3) (.int .i64 (z+1+1+1))).1.stored (k*8+4) (.int .i64 (z+1+1+1+1)) |>.1;have gr5:=Zl2 wr g (k*8) z;have near5:(set5 wr g (k*8) z).ownsRow lo 107 2 (.slice na p.1.near.length nc) p.1.near.length (flat nrE p.1.near):=Zan hnear (fun j hj=>gr5.block j (hnear.lt j hj).2 (fun e=>hgne (by rw [hj,e])))
    have HMN:=hide (ZhW (.slice na p.1.near.length nc) lo p.1.near.length p.1.near (z+1+1+1+1+1) (set5 wr g (k*8) z) rfl near5 (by omega) (by omega) (by omega))
    have HOWN:=hide hown;have HROW5:=hide row5;have HGR5:=hide gr5;have HXL:=hide hxl;have HXK:=hide hxk;have HSTEP:=hide hstep;have HNEXT:=hide hnext;have HPN:=hide hpn;have HGNE:=hide hgne;have HZ:=hide hz;have HTK:=hide ht2;clear hown hrow hxl hxk hstep hnext hpn hnear hex hcurg hxs hz hp row5 gr5 near5 hgne ht2 ht1
    go_wp2_with fail
    refine HMN.out.mono ?_
    rintro e w6 ⟨rfl,near6,gr6⟩;have row6:w6.ownsRow lo 39 8 (.slice (some ⟨g,0,none⟩) ps.length cap) ps.length _:=Zan HROW5.out (fun j hj=>gr6.block j (HROW5.out.lt j hj).2 (fun e=>HGNE.out (by cases hj;exact e)))
    obtain⟨x6,e6⟩:=ZaG row6 (k*8+6) (by omega)
    obtain⟨x7,e7⟩:=ZaG row6 (k*8+7) (by omega)
    have t6:=row6.frozenAt (k*8+6);have t7:=row6.frozenAt (k*8+7);have row8:=(row6.stored (k*8+6) (.int .i64 (mkR z p).1.cost)).1.stored (k*8+7) (.bool (mkR z p).1.far) |>.1;have e8:=set7 (q:=mkR z p) HXK.out rfl;have row8':((w6.setCell ⟨g,k*8+6,none⟩ (.int .i64 (mkR z p).1.cost)).setCell ⟨g,k*8+7,none⟩ (.bool (mkR z p).1.far)).ownsRow lo 39 8 (.slice (some ⟨g,0,none⟩) ps.length cap) ps.length (flat encP (xs.set k (mkR z p))):=by
     rw [<-e8];exact row8
    have gr8:w6.grownBy ((w6.setCell ⟨g,k*8+6,none⟩ (.int .i64 (mkR z p).1.cost)).setCell ⟨g,k*8+7,none⟩ (.bool (mkR z p).1.far)) (some g):=Zah (Zaq _ _ _ _) (Zaq _ _ _ _);have near8:=Zan near6 (W':=(w6.setCell ⟨g,k*8+6,none⟩ (.int .i64 (mkR z p).1.cost)).setCell ⟨g,k*8+7,none⟩ (.bool (mkR z p).1.far)) (fun j hj=>gr8.block j (near6.lt j hj).2 (fun e=>HGNE.out (by rw [hj,e])))
    have fr:Frame lo hi wr ((w6.setCell ⟨g,k*8+6,none⟩ (.int .i64 (mkR z p).1.cost)).setCell ⟨g,k*8+7,none⟩ (.bool (mkR z p).1.far)):=
     ((Frame.grown HGR5.out (fun j hj=>by simp at hj;have:=HG.out;omega)).trans (Frame.grown gr6 (fun j hj=>⟨(near6.lt j hj).1,by have:=(HOWN.out.nears p (List.mem_of_getElem? HXK.out)).2 j (by rw [HPN.out];exact hj);exact this⟩))).trans (Frame.grown gr8 (fun j hj=>by simp at hj;have:=HG.out;omega))
    have fin:=HOWN.out.turn (W8:=(w6.setCell ⟨g,k*8+6,none⟩ (.int .i64 (mkR z p).1.cost)).setCell ⟨g,k*8+7,none⟩ (.bool (mkR z p).1.far)) (q:=mkR z p) HXL.out HXK.out rfl row8' (by
      have h9:=near8
      show World.ownsRow _ lo 107 2 p.2 (Zge _ _).length (flat nrE (Zge _ _))
      rw [HPN.out,ZdB];exact h9) (fun j h1 h2 h3=>by
      have g5:=HGR5.out.size;have g6:=gr6.size;rw [gr8.block j (by omega) (by simp;omega),gr6.block j (by omega) (by rw [<-HPN.out];exact h3),HGR5.out.block j h1 (by simp;omega)])
    rw [HSTEP.out] at fin;have FIN:=hide fin;have FR:=hide fr;clear row6 row8 e8 row8' gr8 near8 fr fin near6 gr6 HOWN HROW5 HMN HGR5
    go_wp2
    refine⟨⟨k+1,by omega,by go_num,?_,FIN.out,hnx.trans FR.out⟩,by simp [intOf];omega⟩
    rw [HNEXT.out]
    rfl
   ·have hkn:k=ps.length:=by omega
    have KN:=hide hkn;have OW:=hide hown;clear hkn hown
    go_wp2
    go_ret
    have h1:=OW.out;rw [KN.out,List.take_length,List.drop_length,List.append_nil] at h1;exact⟨Zb6 (by rw [KN.out,List.take_length]),h1,hnx⟩
theorem Zf4 (v:Value)(ps:List RP)(c:Int)(w:World)(h:Zbn w v (mkL c ps) w.heap.size)(hn:tot ps<=1048576)(hc:0<=c)(hc2:c<=10000000):
  Calls Tryz.prog 34 #[v,.int .i64 c] w fun e w'=>e=.returned (.int .i64 (mkE c ps))/\w=w':=by
 obtain⟨a,cap,rfl⟩:=h.shape;rw [Zdl] at *;have H1:=hide h;have hnl:=Zbh ps;clear h
 go_enter Tryz.func34,Tryz.ntmps34
 go_wp2
 go_loop [5,1] (fun i r=>∃ k:Nat,k<=ps.length/\i=.int .i64 k/\r=.int .i64 (mkE c (ps.take k))) (fun i _=>ps.length-(intOf i).toNat)
 case atStart=>exact ⟨0,by omega,rfl,rfl⟩
 case round=>
  obtain⟨k,hk,rfl,rfl⟩:=hrel;by_cases hlt:k<ps.length
  ·obtain ⟨p,hp⟩:∃ p,ps[k]? = some p:=⟨ps[k],List.getElem?_eq_getElem hlt⟩
   have hki:(0:Int)<=(k:Int):=by omega
   have hkj:(k:Int)<(ps.length:Int):=by omega
   have ht1:=Zhm ps k;have ht2:=Zj4 c (ps.take k);have hpl:=ZdN (List.mem_of_getElem? hp);have hnext:=ZkU c hp;have hat:=mkL_at c hp;obtain⟨z,hz⟩:∃ z,z=mkE c (ps.take k):=⟨_,rfl⟩;rw [<-hz] at ht2 hnext hat |-;have hz0:0<=z:=by omega
   have hz2:z<=100000000:=by omega
   obtain⟨b,off,cap',hve,hbb,s0,s1,s2,s3,s4,s5,s6,s7,hnr⟩:=H1.out.cells k (mkR z p) hat;rw [Zdl] at hve;cases hve
   unfold mkR at s0 s1 s2 s3 s4 s5 s6 s7 hnr;simp only [] at s0 s1 s2 s3 s4 s5 s6 s7 hnr
   obtain⟨na,nc,hpn⟩:=hnr.shape;rw [ZdB] at hpn;rw [hpn] at s5 hnr;have HH:=hide (ZhP _ p.1.near.length (z+1+1+1+1+1) w hnr (by omega) (by omega) (by omega))
   have HNEXT:=hide hnext;have HZ:=hide hz;have hm0:¬z+1+1+1+1+1+2*(p.1.near.length:Int)<0:=by omega
   clear hp hnext hat hz hnr hpn ht1 ht2
   go_wp2_with fail
   refine HH.out.mono ?_
   rintro e w1 ⟨rfl,rfl⟩
   go_wp2
   go_round
   case rel=>exact ⟨k+1,by omega,by go_num,by rw [HNEXT.out];rfl⟩
   case measure=>simp [intOf];omega
  ·have hkn:k=ps.length:=by omega
   have KN:=hide hkn;clear hkn
   go_wp2
   go_ret
   exact⟨Zb6 (by rw [KN.out,List.take_length]),rfl⟩
theorem ZlB (v1:Value)(x:RecD)(w:World)(hl:x.near.length<=1048576)(hv:ZaC w v1 x.near w.heap.size):
  Calls Tryz.prog 138 #[.agg (recC x v1)] w fun e w'=>e=.returned (.bool (ZaX x))/\Below w.heap.size w w':=by
 obtain⟨p1,c1,rfl⟩:=hv.shape;have HK:=hide (Zou (.slice p1 x.near.length c1) x);obtain⟨R,hR⟩:∃ R,R=ZaX x:=⟨_,rfl⟩;rw [<-hR];unfold ZaX at hR;have H1:=hide (Za3 x.owner 1 6);have H2:=hide (Za3 x.seq 1 100000);obtain⟨q1,hq1⟩:∃ q,q=inB x.owner 1 6:=⟨_,rfl⟩;obtain⟨q2,hq2⟩:∃ q,q=inB x.seq 1 100000:=⟨_,rfl⟩;rw [<-hq1] at H1 hR;rw [<-hq2] at H2 hR;clear hq1 hq2;have B0:Below w.heap.size w (w.alloc (.cells (recC x (.slice p1 x.near.length c1)) 39)):=(Below.refl _ _).alloc (Nat.le_refl _) _;have hnew:=heap_alloc_new w (.cells (recC x (.slice p1 x.near.length c1)) 39);by_cases hk1:x.kind=1
 ·rw [if_pos hk1] at hR
  have hkv:Zd6 x (.slice p1 x.near.length c1)=.tuple #[.iface 264 (.agg (recC x (.slice p1 x.near.length c1))),.bool true]:=by unfold Zd6;rw [if_pos hk1]
  rw [hkv] at HK;have HR:=hide hR;have HV:=hide hv;have NEW:=hide hnew;have HKEY:=hide (Zj8 (.slice p1 x.near.length c1) x);have HBODY:=hide (fun W (h:Below w.heap.size w W)=>Ziw (.slice p1 x.near.length c1) x W hl (hv.then h))
  obtain⟨q3,hq3⟩:∃ q,q=(inB x.area 0 2&&x.key==0):=⟨_,rfl⟩;obtain⟨q4,hq4⟩:∃ q,q=(Zbi x.owner x.near&&x.cost==0 && !x.far):=⟨_,rfl⟩;rw [<-hq3] at HKEY;rw [<-hq4] at HBODY;have HR2:=hide (show R=(q1&&q2&&q3&&q4) by rw [HR.out,hq3,hq4];simp only [Bool.and_assoc])
  clear hR hkv hv hnew hq3 hq4 HR hk1;unfold recC at *
  go_enter Tryz.func138,Tryz.ntmps138
  go_wp2_with fail
  refine (HK.out _).mono ?_
  rintro e w1 ⟨rfl,b1⟩;have hx1:w1.heap[w.heap.size]? = some (.cells #[.int .i64 x.area,.int .i64 x.kind,.int .i64 x.owner,.int .i64 x.key,.int .i64 x.seq,.slice p1 x.near.length c1,.int .i64 x.cost,.bool x.far] 39):=by rw [b1.block _ (by simp)];exact NEW.out
  have f2:=Zaa hx1 2;have f4:=Zaa hx1 4;simp at f2 f4
  have B1:=B0.trans (b1.mono B0.size);clear hx1 b1
  go_wp2_with fail
  refine (H1.out _).mono ?_
  rintro e w2 ⟨rfl,rfl⟩;cases q1
  ·go_wp2
   go_ret
   exact⟨Zai (by rw [HR2.out];rfl),B1⟩
  go_wp2_with fail
  refine (H2.out _).mono ?_
  rintro e w2 ⟨rfl,rfl⟩;cases q2
  ·go_wp2
   go_ret
   exact⟨Zai (by rw [HR2.out];rfl),B1⟩
  go_wp2_with fail
  refine (HKEY.out _).mono ?_
  rintro e w2 ⟨rfl,b2⟩;have B2:=B1.trans (b2.mono B1.size);clear b2;cases q3
  ·go_wp2
   go_ret
   exact⟨Zai (by rw [HR2.out];rfl),B2⟩
  go_wp2_with fail
  refine (HBODY.out _ B2).mono ?_
  rintro e w3 ⟨rfl,b3⟩;have B3:=B2.trans (b3.mono B2.size);clear b3
  go_wp2
  go_ret
  exact⟨Zai (by rw [HR2.out];rfl),B3⟩
 rw [if_neg hk1] at hR;by_cases hk2:x.kind=2
 ·rw [if_pos hk2] at hR
  have hkv:Zd6 x (.slice p1 x.near.length c1)=.tuple #[.iface 265 (.agg (recC x (.slice p1 x.near.length c1))),.bool true]:=by unfold Zd6;rw [if_neg hk1,if_pos hk2]
  rw [hkv] at HK;have HR:=hide hR;have HV:=hide hv;have NEW:=hide hnew;have HKEY:=hide (Zhy (.slice p1 x.near.length c1) x);have HBODY:=hide (fun W (h:Below w.heap.size w W)=>ZgH (.slice p1 x.near.length c1) x W hl (hv.then h))
  obtain⟨q3,hq3⟩:∃ q,q=(inB x.area 0 2&&inB x.key 1 6):=⟨_,rfl⟩;obtain⟨q4,hq4⟩:∃ q,q=(x.near.length==0&&inB x.cost 0 60000 && !x.far):=⟨_,rfl⟩;rw [<-hq3] at HKEY;rw [<-hq4] at HBODY;have HR2:=hide (show R=(q1&&q2&&q3&&q4) by rw [HR.out,hq3,hq4];simp only [Bool.and_assoc])
  clear hR hkv hv hnew hq3 hq4 HR hk1 hk2;unfold recC at *
  go_enter Tryz.func138,Tryz.ntmps138
  go_wp2_with fail
  refine (HK.out _).mono ?_
  rintro e w1 ⟨rfl,b1⟩;have hx1:w1.heap[w.heap.size]? = some (.cells #[.int .i64 x.area,.int .i64 x.kind,.int .i64 x.owner,.int .i64 x.key,.int .i64 x.seq,.slice p1 x.near.length c1,.int .i64 x.cost,.bool x.far] 39):=by rw [b1.block _ (by simp)];exact NEW.out
  have f2:=Zaa hx1 2;have f4:=Zaa hx1 4;simp at f2 f4
  have B1:=B0.trans (b1.mono B0.size);clear hx1 b1
  go_wp2_with fail
  refine (H1.out _).mono ?_
  rintro e w2 ⟨rfl,rfl⟩;cases q1
  ·go_wp2
   go_ret
   exact⟨Zai (by rw [HR2.out];rfl),B1⟩
  go_wp2_with fail
  refine (H2.out _).mono ?_
  rintro e w2 ⟨rfl,rfl⟩;cases q2
  ·go_wp2
   go_ret
   exact⟨Zai (by rw [HR2.out];rfl),B1⟩
  go_wp2_with fail
  refine (HKEY.out _).mono ?_
  rintro e w2 ⟨rfl,b2⟩;have B2:=B1.trans (b2.mono B1.size);clear b2;cases q3
  ·go_wp2
   go_ret
   exact⟨Zai (by rw [HR2.out];rfl),B2⟩
  go_wp2_with fail
  refine (HBODY.out _ B2).mono ?_
  rintro e w3 ⟨rfl,b3⟩;have B3:=B2.trans (b3.mono B2.size);clear b3
  go_wp2
  go_ret
  exact⟨Zai (by rw [HR2.out];rfl),B3⟩
 rw [if_neg hk2] at hR;by_cases hk3:x.kind=3
 ·rw [if_pos hk3] at hR
  have hkv:Zd6 x (.slice p1 x.near.length c1)=.tuple #[.iface 266 (.agg (recC x (.slice p1 x.near.length c1))),.bool true]:=by unfold Zd6;rw [if_neg hk1,if_neg hk2,if_pos hk3]
  rw [hkv] at HK;have HR:=hide hR;have HV:=hide hv;have NEW:=hide hnew;have HKEY:=hide (Zjh (.slice p1 x.near.length c1) x);have HBODY:=hide (fun W (h:Below w.heap.size w W)=>ZhA (.slice p1 x.near.length c1) x W hl (hv.then h))
  obtain⟨q3,hq3⟩:∃ q,q=(x.area==9&&inB x.key 1 9):=⟨_,rfl⟩;obtain⟨q4,hq4⟩:∃ q,q=(x.near.length==0&&(inB x.cost 1 1000||x.cost==60000)):=⟨_,rfl⟩;rw [<-hq3] at HKEY;rw [<-hq4] at HBODY;have HR2:=hide (show R=(q1&&q2&&q3&&q4) by rw [HR.out,hq3,hq4];simp only [Bool.and_assoc])
  clear hR hkv hv hnew hq3 hq4 HR hk1 hk2 hk3;unfold recC at *
  go_enter Tryz.func138,Tryz.ntmps138
  go_wp2_with fail
  refine (HK.out _).mono ?_
  rintro e w1 ⟨rfl,b1⟩;have hx1:w1.heap[w.heap.size]? = some (.cells #[.int .i64 x.area,.int .i64 x.kind,.int .i64 x.owner,.int .i64 x.key,.int .i64 x.seq,.slice p1 x.near.length c1,.int .i64 x.cost,.bool x.far] 39):=by rw [b1.block _ (by simp)];exact NEW.out
  have f2:=Zaa hx1 2;have f4:=Zaa hx1 4;simp at f2 f4
  have B1:=B0.trans (b1.mono B0.size);clear hx1 b1
  go_wp2_with fail
  refine (H1.out _).mono ?_
  rintro e w2 ⟨rfl,rfl⟩;cases q1
  ·go_wp2
   go_ret
   exact⟨Zai (by rw [HR2.out];rfl),B1⟩
  go_wp2_with fail
  refine (H2.out _).mono ?_
  rintro e w2 ⟨rfl,rfl⟩;cases q2
  ·go_wp2
   go_ret
   exact⟨Zai (by rw [HR2.out];rfl),B1⟩
  go_wp2_with fail
  refine (HKEY.out _).mono ?_
  rintro e w2 ⟨rfl,b2⟩;have B2:=B1.trans (b2.mono B1.size);clear b2;cases q3
  ·go_wp2
   go_ret
   exact⟨Zai (by rw [HR2.out];rfl),B2⟩
  go_wp2_with fail
  refine (HBODY.out _ B2).mono ?_
  rintro e w3 ⟨rfl,b3⟩;have B3:=B2.trans (b3.mono B2.size);clear b3
  go_wp2
  go_ret
  exact⟨Zai (by rw [HR2.out];rfl),B3⟩
 rw [if_neg hk3] at hR;have hkv:Zd6 x (.slice p1 x.near.length c1)=.tuple #[.nilIface,.bool false]:=by unfold Zd6;rw [if_neg hk1,if_neg hk2,if_neg hk3]
 rw [hkv] at HK;have hR2:R=false:=by rw [hR];simp
 have HR2:=hide hR2;clear hR hkv hv hnew hR2 H1 H2 hk1 hk2 hk3;unfold recC at *
 go_enter Tryz.func138,Tryz.ntmps138
 go_wp2_with fail
 refine (HK.out _).mono ?_
 rintro e w1 ⟨rfl,b1⟩;have B1:=B0.trans (b1.mono B0.size);clear b1
 go_wp2
 go_ret
 exact⟨Zai HR2.out,B1⟩
theorem Tryz.infoWay:(Tryz.prog.info? 194).map (fun i=>(i.zero,i.size,i.bytes))=some (some (.agg (wayC Zbt (.slice none 0 0))),3,40):=by kernel_rfl
def Zal (ps:List WP):List WayD:=ps.map (·.1)
theorem ZcA {ps:List WP}{i:Nat}{p:WP}(h:ps[i]? = some p):(Zal ps)[i]? = some p.1:=by simp [Zal,h]
theorem Zfl {bytes:Nat}(hbb:bytes<=100){P:Program}(w:World){ops:Array Oper}{rest:List Oper}{o:Oper}{a:Act}{Q:Exit->Act->World->Prop}(hgd:o.guard=none)(s x:Operand)(t:TypeId)
  (ho:o.op=.call { callee:=.builtin .append,args:=#[s,x],argTypes:=#[t,t] }) (base:Nat) (e:TypeId) (ht:P.underlying t=some (.slice e))
  (hinfo:(P.info? e).map (fun i=>(i.zero,i.size,i.bytes))=some (some (.int .i64 0),1,bytes))
  (v:Value) (l:List Int) (y1 y2:Int) (hs:a.eval s=v) (hown:w.ownsRow base e 1 v l.length (flat intE l))
  (ad:Addr) (c:Nat) (hx:a.eval x=.slice (some ad) 2 c) (hnews:∀ j u,([.int .i64 y1,.int .i64 y2]:List Value)[j]? = some u->w.cell? (ad.add j)=some u)
  (hl:l.length+2<=1000000000) (hbase:base<=w.heap.size)
  (h:∀ v' w' l',Hid (l'=l++[y1,y2])->w'.ownsRow base e 1 v' l'.length (flat intE l')->w.grownBy w' v.ownBlock->wpList P ops Q rest (a.put o.dst v') w'):wpList P ops Q (o::rest) a w:=by
 obtain⟨i0,hi,hz0,hz1,hz2⟩:=info_parts hinfo;refine wpList_append_own_at w hgd s x t ho base e i0 (.int .i64 0) 1 bytes ht hi hz0 hz1 hz2 rfl (by decide) v l.length (flat intE l) hs hown ad 2 c [.int .i64 y1,.int .i64 y2] hx rfl hnews (by simp [Value.oneCell']) (by unfold maxLen;omega) ?_ hbase ?_
 ·have:(l.length+2)*bytes<=1000000000*100:=Nat.mul_le_mul hl hbb
  omega
 ·intro v' w' h1 h2 _ _
  have e1:flat intE l++[.int .i64 y1,.int .i64 y2]=flat intE (l++[y1,y2]):=by rw [ZaH];simp [flat,intE]
  rw [e1] at h1;exact h v' w' (l++[y1,y2]) rfl (by simpa using h1) h2
end Go.Proofs.YtadokhjefnkajaaGreat
