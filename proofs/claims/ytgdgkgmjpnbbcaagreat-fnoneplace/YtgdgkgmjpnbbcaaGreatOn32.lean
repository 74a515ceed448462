/-
  OnwI GoOnK
-/
import Derived.Test.YtgdgkgmjpnbbcaaGreatOn11
import Derived.Test.YtgdgkgmjpnbbcaaGreatOn31
import Derived.Test.YtgdgkgmjpnbbcaaGreatOn21
namespace Go.Proofs.YtgdgkgmjpnbbcaaGreat
open Go.RowKit
set_option linter.unusedSimpArgs false
set_option linter.unusedVariables false
set_option maxRecDepth 100000
set_option maxHeartbeats 8000000
theorem World.size_alloc_drew (w:World)(o:Obj):(w.drew.alloc o).heap.size=w.heap.size+1:=by
 have:(w.drew.alloc o).heap.size=w.drew.heap.size+1:=by simp
 exact this
def onwD (x:WayD)(to c:Int):WayD:=if x.hops=[] then ⟨to,x.cost+c,[to]⟩ else ⟨to,x.cost+c,x.hops⟩
theorem Zlg (x:WayD)(vx:Value)(bx:Nat)(to c:Int)(w:World)(hx:w.ownsRow bx 3 1 vx x.hops.length (flat intE x.hops))(hlx:x.hops.length<=1048576)(h0:0<=x.cost+c)(h1:x.cost+c<=1000000):
  Calls Tryz.prog 93 #[.agg (wayC x vx),.int .i64 to,.int .i64 c] w fun e w'=>∃ u,e=.returned (.agg (wayC (onwD x to c) u))/\w'.ownsRow w.heap.size 3 1 u (onwD x to c).hops.length (flat intE (onwD x to c).hops)/\Below w.heap.size w w':=by
 obtain⟨D,hD⟩:∃ D,D=onwD x to c:=⟨_,rfl⟩;rw [<-hD];unfold onwD at hD;have HD:=hide hD;clear hD;obtain⟨p1,q1,rfl⟩:=Zac hx;have HOH:=hide (fun W (hb:Below w.heap.size w W)=>ZeC x.hops (.slice p1 x.hops.length q1) bx W (Zaf hx hb (Nat.le_refl _)) hlx)
 clear hx;have hwc:IntKind.i64.wrap (x.cost+c)=x.cost+c:=ZaO _ (by omega) (by omega)
 have m0:((w.alloc (.cells #[.int .i64 x.to,.int .i64 x.cost,.slice p1 x.hops.length q1] 48)).alloc (.cells #[.int .i64 0,.int .i64 0,.slice none 0 0] 48)).heap[w.heap.size]? = some (.cells #[.int .i64 x.to,.int .i64 x.cost,.slice p1 x.hops.length q1] 48):=by
  rw [Below.heap_alloc _ _ _ (by simp),heap_alloc_new]
 have m1:((w.alloc (.cells #[.int .i64 x.to,.int .i64 x.cost,.slice p1 x.hops.length q1] 48)).alloc (.cells #[.int .i64 0,.int .i64 0,.slice none 0 0] 48)).heap[w.heap.size+1]? = some (.cells #[.int .i64 0,.int .i64 0,.slice none 0 0] 48):=by
  have e:=heap_alloc_new (w.alloc (.cells #[.int .i64 x.to,.int .i64 x.cost,.slice p1 x.hops.length q1] 48)) (.cells #[.int .i64 0,.int .i64 0,.slice none 0 0] 48);rw [show (w.alloc (.cells #[.int .i64 x.to,.int .i64 x.cost,.slice p1 x.hops.length q1] 48)).heap.size=w.heap.size+1 by simp] at e
  exact e
 have BQ:Below w.heap.size w ((w.alloc (.cells #[.int .i64 x.to,.int .i64 x.cost,.slice p1 x.hops.length q1] 48)).alloc (.cells #[.int .i64 0,.int .i64 0,.slice none 0 0] 48)):=((Below.refl w.heap.size w).alloc (by simp) _).alloc (by simp) _
 obtain⟨w1,hw1⟩:∃ W,W=((w.alloc (.cells #[.int .i64 x.to,.int .i64 x.cost,.slice p1 x.hops.length q1] 48)).alloc (.cells #[.int .i64 0,.int .i64 0,.slice none 0 0] 48)):=⟨_,rfl⟩;rw [<-hw1] at m0 m1 BQ;have s1:=Zaa m0 1;have s2:=Zaa m0 2;simp at s1 s2
 unfold wayC
 go_enter Tryz.func93,Tryz.ntmps93
 go_wp2
 rw [<-hw1];clear hw1;refine wp_region_noPanic ?_
 have hS0:w1.drew.cell? ⟨w.heap.size,1,none⟩=some (.int .i64 x.cost)/\w1.drew.cell? ⟨w.heap.size,2,none⟩=some (.slice p1 x.hops.length q1):=⟨s1,s2⟩;refine Zaj (S:=fun W=>W.cell? ⟨w.heap.size,1,none⟩=some (.int .i64 x.cost)/\W.cell? ⟨w.heap.size,2,none⟩=some (.slice p1 x.hops.length q1)) (by kernel_rfl) 11 rfl hS0 ?_
 intro ops hops _
 show wpAnyH Tryz.prog .any ops _ _ 11 #[false,false,false,false,false,false,false,false,false,false,false] _ w1.drew
 iterate 7
  refine Zat 11 ?_ ?_ ?_ (by rw [hops.out];kernel_rfl) ?_ ?_ (by assumption) ?_
  rotate_left 2
  ·rw [hops.out];simp only [getS,Nat.reduceSub,Nat.reduceAdd];rfl
  ·intro W hW;obtain⟨k1,k2⟩:=hW;go_simp <;> with_reducible rfl
  ·exact fun _ _ _=>id
  try simp only [putS]
 refine wpAnyH_ready (rs:=[7,9]) (by rw [hops.out];kernel_rfl) (by simp) ?_
 refine AllReadyH.cons (o:=?_) ?_ (fun K hK=>?_) ?_
 rotate_left 1
 ·rw [hops.out];simp only [getS];rfl
 ·rw [if_pos (by rfl)]
  go_simp
  refine (HOH.out _ (ZkY BQ)).mono ?_
  rintro e w4 ⟨u,rfl,hn2,b2⟩;obtain⟨na,nc,rfl⟩:=Zac hn2;have hK2:w4.cell? ⟨w.heap.size,1,none⟩=some (.int .i64 x.cost)/\w4.cell? ⟨w.heap.size,2,none⟩=some (.slice p1 x.hops.length q1):=⟨by rw [b2.cell (by exact Zab m0)];exact s1,by rw [b2.cell (by exact Zab m0)];exact s2⟩
  refine hK.out _ _ hK2 (fun _=>?_)
  clear hK K
  try simp only [putS]
  refine Za0 8 ?_ ?_ ?_ (by rw [hops.out];kernel_rfl) ?_ ?_ (by assumption) ?_
  rotate_left 2
  ·rw [hops.out];simp only [getS];rfl
  ·intro W hW;obtain⟨k1,k2⟩:=hW;go_simp <;> with_reducible rfl
  ·exact fun _ _ _=>id
  try simp only [putS]
  refine Zak 9 (oi:=?_) ?_ (by rw [hops.out];kernel_rfl) ?_ ?_
  rotate_left 1
  ·rw [hops.out];simp only [getS];rfl
  ·rw [hops.out];kernel_rfl
  intro K hK
  go_simp
  have hK3:(w4.alloc (.cells #[.int .i64 0,.int .i64 0,.slice none 0 0] 48)).cell? ⟨w.heap.size,1,none⟩=some (.int .i64 x.cost)/\(w4.alloc (.cells #[.int .i64 0,.int .i64 0,.slice none 0 0] 48)).cell? ⟨w.heap.size,2,none⟩=some (.slice p1 x.hops.length q1):=⟨by rw [World.cell?_of_block (w:=w4) (Below.heap_alloc _ _ _ (by have h1:=Zab m0;have h2:=b2.size;have h3:w1.heap.size<=w4.heap.size:=h2;exact Nat.lt_of_lt_of_le h1 h3))];exact hK2.1,by rw [World.cell?_of_block (w:=w4) (Below.heap_alloc _ _ _ (by have h1:=Zab m0;have h2:=b2.size;have h3:w1.heap.size<=w4.heap.size:=h2;exact Nat.lt_of_lt_of_le h1 h3))];exact hK2.2⟩
  refine hK.out _ _ hK3 (fun _=>?_)
  clear hK K
  try simp only [putS]
  have h41:w1.heap.size<=w4.heap.size:=b2.size;have l1:=Zab m1;have z0:=(Below.heap_alloc w4 (.cells #[.int .i64 0,.int .i64 0,.slice none 0 0] 48) _ (by omega)).trans ((b2.block _ (Zab m0)).trans m0)
  have z1:=(Below.heap_alloc w4 (.cells #[.int .i64 0,.int .i64 0,.slice none 0 0] 48) _ (by omega)).trans ((b2.block _ (Zab m1)).trans m1)
  have zn:=heap_alloc_new w4 (.cells #[.int .i64 0,.int .i64 0,.slice none 0 0] 48);have ho:=Zah (b0:=w.heap.size+2) (hn2.alloc (.cells #[.int .i64 0,.int .i64 0,.slice none 0 0] 48)) (by show w.heap.size+2<=w1.heap.size;omega)
  have hB:Below w.heap.size w (w4.alloc (.cells #[.int .i64 0,.int .i64 0,.slice none 0 0] 48)):=((ZkY BQ).trans (b2.mono BQ.size)).alloc (by omega) _
  have hnb:w.heap.size+1<w4.heap.size:=by omega
  have hvn:∀ g,(Value.slice na x.hops.length nc).ownBlock=some g->g≠w4.heap.size:=fun g hv=>by have:=(hn2.lt g hv).2;omega
  clear hn2 b2 hK2;generalize (w4.alloc (.cells #[.int .i64 0,.int .i64 0,.slice none 0 0] 48))=W5 at *;have u0:=Zaa zn 0;have u1:=Zaa zn 1;have u2:=Zaa zn 2;simp at u0 u1 u2
  have fu:=Zae zn;have FN:=Zdc (⟨to,x.cost+c,x.hops⟩:WayD) (.slice na x.hops.length nc) zn;have G8:=Za1 W5 w4.heap.size (⟨to,x.cost+c,x.hops⟩:WayD) (.slice na x.hops.length nc);have ZZ0:=(G8.block _ (Zab z0) (by simp;omega)).trans z0
  have ZZ1:=(G8.block _ (Zab z1) (by simp;omega)).trans z1
  have OO:=ho.kept G8 (by
   cases hv:(Value.slice na x.hops.length nc).ownBlock with
   | none=>exact .inl rfl
   | some g=>exact .inr (fun e=>hvn g hv (by simpa using e)))
  have BB:=hB.grown G8 hB.size (fun k hk=>by simp at hk;omega)
  have hS6:(Za7 W5 w4.heap.size (⟨to,x.cost+c,x.hops⟩:WayD) (.slice na x.hops.length nc)).cell? ⟨w.heap.size,1,none⟩=some (.int .i64 x.cost)/\(Za7 W5 w4.heap.size (⟨to,x.cost+c,x.hops⟩:WayD) (.slice na x.hops.length nc)).cell? ⟨w.heap.size,2,none⟩=some (.slice p1 x.hops.length q1):=⟨by have e:=Zaa ZZ0 1;simpa using e,by have e:=Zaa ZZ0 2;simpa using e⟩
  obtain⟨W6,hW6⟩:∃ W,W=((W5.setCell ⟨w4.heap.size,0,none⟩ (.int .i64 to)).setCell ⟨w4.heap.size,1,none⟩ (.int .i64 (x.cost+c))).setCell ⟨w4.heap.size,2,none⟩ (.slice na x.hops.length nc):=⟨_,rfl⟩;have e6:W6=Za7 W5 w4.heap.size (⟨to,x.cost+c,x.hops⟩:WayD) (.slice na x.hops.length nc):=hW6;rw [<-e6] at FN ZZ0 ZZ1 OO BB hS6;have HW6:=hide hW6;clear e6 hW6;have hnbB:=hnb;have HFN:=hide FN;have HZ0:=hide ZZ0;have HZ1:=hide ZZ1;have HOO:=hide OO;have HBB:=hide BB;clear FN G8 ZZ0 ZZ1 OO BB zn z0 z1 ho hB hvn;refine Zak 10 (oi:=?_) ?_ (by rw [hops.out];kernel_rfl) ?_ ?_
  rotate_left 1
  ·rw [hops.out];simp only [getS];rfl
  ·rw [hops.out];kernel_rfl
  intro K hK
  go_simp
  rw [<-HW6.out];refine hK.out _ _ hS6 (fun _=>?_)
  clear hK K
  try simp only [putS]
  refine wpAnyH_done (by rw [hops.out];kernel_rfl) ?_ _
  clear hops ops u0 u1 u2 fu;refine NoPanic.normal ?_
  clear HW6;obtain⟨NB,hNB⟩:∃ k,k=w4.heap.size:=⟨_,rfl⟩;rw [<-hNB] at HFN hnbB |-;clear hNB;clear m0 m1 s1 s2 hS0 BQ;have s2:=hS6.2;have f0:=Zaa HFN.out 0;have f1:=Zaa HFN.out 1;have f2:=Zaa HFN.out 2;simp [wayC] at f0 f1 f2
  have ff:=Zae HFN.out;have v0:=Zaa HZ1.out 0;have v1:=Zaa HZ1.out 1;have v2:=Zaa HZ1.out 2;simp at v0 v1 v2
  have fv:=Zae HZ1.out;have lnB:=Zab HFN.out;by_cases hx0:x.hops=[]
  ·have hDe:D=⟨to,x.cost+c,[to]⟩:=by rw [HD.out,if_pos hx0]
   subst hDe;have hl0:x.hops.length=0:=by rw [hx0];rfl
   have hlb:((x.hops.length:Int)==0)=true:=by rw [hl0];rfl
   have ez:(W6.setCell ⟨NB,2,none⟩ (.slice (some ⟨W6.heap.size,0,none⟩) 1 1)).heap.size=W6.heap.size:=by simp
   have QA:(W6.setCell ⟨NB,2,none⟩ (.slice (some ⟨W6.heap.size,0,none⟩) 1 1)).heap[w.heap.size+1]? = some (.cells #[.int .i64 0,.int .i64 0,.slice none 0 0] 48):=by
    rw [heap_setCell_other W6 ⟨NB,2,none⟩ _ _ (by show w.heap.size+1≠NB;omega)]
    exact HZ1.out
   have F1:=Zdc ⟨to,x.cost+c,[to]⟩ (.slice (some ⟨W6.heap.size,0,none⟩) 1 1) QA;have G9:=Za1 (W6.setCell ⟨NB,2,none⟩ (.slice (some ⟨W6.heap.size,0,none⟩) 1 1)) (w.heap.size+1) ⟨to,x.cost+c,[to]⟩ (.slice (some ⟨W6.heap.size,0,none⟩) 1 1);have B8:=(HBB.out.setCell (p:=⟨NB,2,none⟩) (by show w.heap.size<=NB;omega) (.slice (some ⟨W6.heap.size,0,none⟩) 1 1)).grown G9 (by rw [ez];omega) (fun k hk=>by simp at hk;omega)
   have ez2:(Za7 (W6.setCell ⟨NB,2,none⟩ (.slice (some ⟨W6.heap.size,0,none⟩) 1 1)) (w.heap.size+1) ⟨to,x.cost+c,[to]⟩ (.slice (some ⟨W6.heap.size,0,none⟩) 1 1)).heap.size=W6.heap.size:=by simp [Za7]
   have FF:=hide ((Below.heap_alloc (Za7 (W6.setCell ⟨NB,2,none⟩ (.slice (some ⟨W6.heap.size,0,none⟩) 1 1)) (w.heap.size+1) ⟨to,x.cost+c,[to]⟩ (.slice (some ⟨W6.heap.size,0,none⟩) 1 1)) (.cells #[.int .i64 to] 3) (w.heap.size+1) (by rw [ez2];omega)).trans F1)
   have RW:((Za7 (W6.setCell ⟨NB,2,none⟩ (.slice (some ⟨W6.heap.size,0,none⟩) 1 1)) (w.heap.size+1) ⟨to,x.cost+c,[to]⟩ (.slice (some ⟨W6.heap.size,0,none⟩) 1 1)).alloc (.cells #[.int .i64 to] 3)).ownsRow w.heap.size 3 1 (.slice (some ⟨(Za7 (W6.setCell ⟨NB,2,none⟩ (.slice (some ⟨W6.heap.size,0,none⟩) 1 1)) (w.heap.size+1) ⟨to,x.cost+c,[to]⟩ (.slice (some ⟨W6.heap.size,0,none⟩) 1 1)).heap.size,0,none⟩) 1 1) [to].length (flat intE [to]):=World.ownsRow_lit _ #[.int .i64 to] 1 (by rw [ez2];omega) (by unfold maxLen;omega) (by simp)
   rw [ez2] at RW;have O9:=hide RW;have B9:=hide (B8.alloc (by rw [ez2];omega) (.cells #[.int .i64 to] 3))
   have HFIN:=hide (fun W (hW:W=(Za7 (W6.setCell ⟨NB,2,none⟩ (.slice (some ⟨W6.heap.size,0,none⟩) 1 1)) (w.heap.size+1) ⟨to,x.cost+c,[to]⟩ (.slice (some ⟨W6.heap.size,0,none⟩) 1 1)).alloc (.cells #[.int .i64 to] 3))=>show W.heap[w.heap.size+1]? = some (.cells (wayC ⟨to,x.cost+c,[to]⟩ (.slice (some ⟨W6.heap.size,0,none⟩) 1 1)) 48)/\W.ownsRow w.heap.size 3 1 (.slice (some ⟨W6.heap.size,0,none⟩) 1 1) [to].length (flat intE [to])/\Below w.heap.size w W by subst hW;exact⟨FF.out,O9.out,B9.out⟩)
   have QB:=(Below.heap_alloc (W6.setCell ⟨NB,2,none⟩ (.slice (some ⟨W6.heap.size,0,none⟩) 1 1)) (.cells #[.int .i64 to] 3) (w.heap.size+1) (by rw [ez];omega)).trans QA
   have fb0:=Zae QB 0;have fb1:=Zae QB 1;have fb2:=Zae QB 2;have l6:w.heap.size+1<W6.heap.size:=by omega
   clear G9 RW QA QB F1 B8 ez ez2 FF O9 B9 hl0 hx0 HZ0 HZ1 HFN HOO HBB hS6 HOH HD
   go_wp2_with fail
   (try simp only [Exit.inBlock,Exit.then])
   obtain⟨W7,hW7⟩:∃ W,W=(Za7 (W6.setCell ⟨NB,2,none⟩ (.slice (some ⟨W6.heap.size,0,none⟩) 1 1)) (w.heap.size+1) ⟨to,x.cost+c,[to]⟩ (.slice (some ⟨W6.heap.size,0,none⟩) 1 1)).alloc (.cells #[.int .i64 to] 3):=⟨_,rfl⟩;have R7:=HFIN.out W7 hW7;rw [<-hW7];refine bodyPost_ret (results_cell_row rfl _ _ (w.heap.size+1) 48 (wayC ⟨to,x.cost+c,[to]⟩ (.slice (some ⟨W6.heap.size,0,none⟩) 1 1)) (0,0) _ rfl R7.1 Tryz.underlying48 rfl (by kernel_rfl)) rfl ?_
   exact⟨_,rfl,R7.2.1,R7.2.2⟩
  ·have hDe:D=⟨to,x.cost+c,x.hops⟩:=by rw [HD.out,if_neg hx0]
   subst hDe;have hl0:x.hops.length≠0:=fun e=>hx0 (List.eq_nil_of_length_eq_zero e)
   have hlb:((x.hops.length:Int)==0)=false:=by
    have h1:¬(x.hops.length:Int)=0:=by omega
    simpa using h1
   have FF:=hide (Zdc ⟨to,x.cost+c,x.hops⟩ (.slice na x.hops.length nc) HZ1.out);have G9:=Za1 W6 (w.heap.size+1) ⟨to,x.cost+c,x.hops⟩ (.slice na x.hops.length nc);have O9:=hide (Zah (b0:=w.heap.size) (HOO.out.kept G9 (by
    cases hv:(Value.slice na x.hops.length nc).ownBlock with
    | none=>exact .inl rfl
    | some g=>exact .inr (fun e=>by have:=(HOO.out.lt g hv).1;simp at e;omega))) (by omega))
   have B9:=hide (HBB.out.grown G9 HBB.out.size (fun k hk=>by simp at hk;omega))
   have hl1:¬(x.hops.length:Int)=0:=by omega
   clear G9 hl0 hx0 HZ0 HZ1 HFN HOO HBB hS6 HOH HD
   go_wp2_with fail
   (try simp only [Exit.inBlock,Exit.then])
   refine bodyPost_ret (results_cell_row rfl _ _ (w.heap.size+1) 48 (wayC ⟨to,x.cost+c,x.hops⟩ (.slice na x.hops.length nc)) (0,0) _ rfl FF.out Tryz.underlying48 rfl (by kernel_rfl)) rfl ?_
   exact⟨_,rfl,O9.out,B9.out⟩
 refine AllReadyH.cons (o:=?_) ?_ (fun K hK=>?_) ?_
 rotate_left 1
 ·rw [hops.out];simp only [getS];rfl
 ·rw [if_pos (by rfl)]
  go_simp
  have hK2:(w1.drew.alloc (.cells #[.int .i64 0,.int .i64 0,.slice none 0 0] 48)).cell? ⟨w.heap.size,1,none⟩=some (.int .i64 x.cost)/\(w1.drew.alloc (.cells #[.int .i64 0,.int .i64 0,.slice none 0 0] 48)).cell? ⟨w.heap.size,2,none⟩=some (.slice p1 x.hops.length q1):=⟨by rw [World.cell?_of_block (w:=w1.drew) (Below.heap_alloc _ _ _ (by exact Zab m0))];exact s1,by rw [World.cell?_of_block (w:=w1.drew) (Below.heap_alloc _ _ _ (by exact Zab m0))];exact s2⟩
  refine hK.out _ _ hK2 (fun _=>?_)
  clear hK K
  try simp only [putS]
  refine Zak 7 (oi:=?_) ?_ (by rw [hops.out];kernel_rfl) ?_ ?_
  rotate_left 1
  ·rw [hops.out];simp only [getS];rfl
  ·rw [hops.out];kernel_rfl
  intro K hK
  go_simp
  refine (HOH.out (w1.drew.alloc (.cells #[.int .i64 0,.int .i64 0,.slice none 0 0] 48)) ((ZkY BQ).alloc (by exact BQ.size) _)).mono ?_
  rintro e w4 ⟨u,rfl,hn2,b2⟩;obtain⟨na,nc,rfl⟩:=Zac hn2;have l0:w.heap.size<(w1.drew.alloc (.cells #[.int .i64 0,.int .i64 0,.slice none 0 0] 48)).heap.size:=by
   have h1:=Zab m0;have h2:(w1.drew.alloc (.cells #[.int .i64 0,.int .i64 0,.slice none 0 0] 48)).heap.size=w1.heap.size+1:=by
    rw [World.size_alloc_drew]
   omega
  have hK3:w4.cell? ⟨w.heap.size,1,none⟩=some (.int .i64 x.cost)/\w4.cell? ⟨w.heap.size,2,none⟩=some (.slice p1 x.hops.length q1):=⟨by rw [b2.cell l0];exact hK2.1,by rw [b2.cell l0];exact hK2.2⟩
  refine hK.out _ _ hK3 (fun _=>?_)
  clear hK K
  try simp only [putS]
  refine Za0 8 ?_ ?_ ?_ (by rw [hops.out];kernel_rfl) ?_ ?_ (by assumption) ?_
  rotate_left 2
  ·rw [hops.out];simp only [getS];rfl
  ·intro W hW;obtain⟨k1,k2⟩:=hW;go_simp <;> with_reducible rfl
  ·exact fun _ _ _=>id
  try simp only [putS]
  have hsA:(w1.drew.alloc (.cells #[.int .i64 0,.int .i64 0,.slice none 0 0] 48)).heap.size=w1.heap.size+1:=World.size_alloc_drew w1 _;have l1:=Zab m1;have z0:=(b2.block _ l0).trans ((Below.heap_alloc w1.drew (.cells #[.int .i64 0,.int .i64 0,.slice none 0 0] 48) _ (by exact Zab m0)).trans m0)
  have z1:=(b2.block _ (by omega)).trans ((Below.heap_alloc w1.drew (.cells #[.int .i64 0,.int .i64 0,.slice none 0 0] 48) _ (by exact Zab m1)).trans m1)
  have zn:=(b2.block _ (by rw [hsA];exact Nat.lt_succ_self w1.heap.size)).trans (heap_alloc_new w1.drew (.cells #[.int .i64 0,.int .i64 0,.slice none 0 0] 48))
  have ho:=Zah (b0:=w.heap.size+2) hn2 (by omega)
  have hB:Below w.heap.size w w4:=((ZkY BQ).alloc (by exact BQ.size) _).trans (b2.mono (by omega))
  have hnb:w.heap.size+1<w1.heap.size:=l1;have hvn:∀ g,(Value.slice na x.hops.length nc).ownBlock=some g->g≠w1.heap.size:=fun g hv=>by have:=(hn2.lt g hv).1;omega
  have zn:w4.heap[w1.heap.size]? = some (.cells #[.int .i64 0,.int .i64 0,.slice none 0 0] 48):=zn;clear hn2 b2 hK2 hK3;have u0:=Zaa zn 0;have u1:=Zaa zn 1;have u2:=Zaa zn 2;simp at u0 u1 u2
  have fu:=Zae zn;have FN:=Zdc (⟨to,x.cost+c,x.hops⟩:WayD) (.slice na x.hops.length nc) zn;have G8:=Za1 w4 w1.heap.size (⟨to,x.cost+c,x.hops⟩:WayD) (.slice na x.hops.length nc);have ZZ0:=(G8.block _ (Zab z0) (by simp;omega)).trans z0
  have ZZ1:=(G8.block _ (Zab z1) (by simp;omega)).trans z1
  have OO:=ho.kept G8 (by
   cases hv:(Value.slice na x.hops.length nc).ownBlock with
   | none=>exact .inl rfl
   | some g=>exact .inr (fun e=>hvn g hv (by simpa using e)))
  have BB:=hB.grown G8 hB.size (fun k hk=>by simp at hk;omega)
  have hS6:(Za7 w4 w1.heap.size (⟨to,x.cost+c,x.hops⟩:WayD) (.slice na x.hops.length nc)).cell? ⟨w.heap.size,1,none⟩=some (.int .i64 x.cost)/\(Za7 w4 w1.heap.size (⟨to,x.cost+c,x.hops⟩:WayD) (.slice na x.hops.length nc)).cell? ⟨w.heap.size,2,none⟩=some (.slice p1 x.hops.length q1):=⟨by have e:=Zaa ZZ0 1;simpa using e,by have e:=Zaa ZZ0 2;simpa using e⟩
  obtain⟨W6,hW6⟩:∃ W,W=((w4.setCell ⟨w1.heap.size,0,none⟩ (.int .i64 to)).setCell ⟨w1.heap.size,1,none⟩ (.int .i64 (x.cost+c))).setCell ⟨w1.heap.size,2,none⟩ (.slice na x.hops.length nc):=⟨_,rfl⟩;have e6:W6=Za7 w4 w1.heap.size (⟨to,x.cost+c,x.hops⟩:WayD) (.slice na x.hops.length nc):=hW6;rw [<-e6] at FN ZZ0 ZZ1 OO BB hS6;have HW6:=hide hW6;clear e6 hW6;have hnbB:=hnb;have HFN:=hide FN;have HZ0:=hide ZZ0;have HZ1:=hide ZZ1;have HOO:=hide OO;have HBB:=hide BB;clear FN G8 ZZ0 ZZ1 OO BB zn z0 z1 ho hB hvn;refine Zak 10 (oi:=?_) ?_ (by rw [hops.out];kernel_rfl) ?_ ?_
  rotate_left 1
  ·rw [hops.out];simp only [getS];rfl
  ·rw [hops.out];kernel_rfl
  intro K hK
  go_simp
  rw [<-HW6.out];refine hK.out _ _ hS6 (fun _=>?_)
  clear hK K
  try simp only [putS]
  refine wpAnyH_done (by rw [hops.out];kernel_rfl) ?_ _
  clear hops ops u0 u1 u2 fu;refine NoPanic.normal ?_
  clear HW6;obtain⟨NB,hNB⟩:∃ k,k=w1.heap.size:=⟨_,rfl⟩;rw [<-hNB] at HFN hnbB |-;clear hNB;clear m0 m1 s1 s2 hS0 BQ;have s2:=hS6.2;have f0:=Zaa HFN.out 0;have f1:=Zaa HFN.out 1;have f2:=Zaa HFN.out 2;simp [wayC] at f0 f1 f2
  have ff:=Zae HFN.out;have v0:=Zaa HZ1.out 0;have v1:=Zaa HZ1.out 1;have v2:=Zaa HZ1.out 2;simp at v0 v1 v2
  have fv:=Zae HZ1.out;have lnB:=Zab HFN.out;by_cases hx0:x.hops=[]
  ·have hDe:D=⟨to,x.cost+c,[to]⟩:=by rw [HD.out,if_pos hx0]
   subst hDe;have hl0:x.hops.length=0:=by rw [hx0];rfl
   have hlb:((x.hops.length:Int)==0)=true:=by rw [hl0];rfl
   have ez:(W6.setCell ⟨NB,2,none⟩ (.slice (some ⟨W6.heap.size,0,none⟩) 1 1)).heap.size=W6.heap.size:=by simp
   have QA:(W6.setCell ⟨NB,2,none⟩ (.slice (some ⟨W6.heap.size,0,none⟩) 1 1)).heap[w.heap.size+1]? = some (.cells #[.int .i64 0,.int .i64 0,.slice none 0 0] 48):=by
    rw [heap_setCell_other W6 ⟨NB,2,none⟩ _ _ (by show w.heap.size+1≠NB;omega)]
    exact HZ1.out
   have F1:=Zdc ⟨to,x.cost+c,[to]⟩ (.slice (some ⟨W6.heap.size,0,none⟩) 1 1) QA;have G9:=Za1 (W6.setCell ⟨NB,2,none⟩ (.slice (some ⟨W6.heap.size,0,none⟩) 1 1)) (w.heap.size+1) ⟨to,x.cost+c,[to]⟩ (.slice (some ⟨W6.heap.size,0,none⟩) 1 1);have B8:=(HBB.out.setCell (p:=⟨NB,2,none⟩) (by show w.heap.size<=NB;omega) (.slice (some ⟨W6.heap.size,0,none⟩) 1 1)).grown G9 (by rw [ez];omega) (fun k hk=>by simp at hk;omega)
   have ez2:(Za7 (W6.setCell ⟨NB,2,none⟩ (.slice (some ⟨W6.heap.size,0,none⟩) 1 1)) (w.heap.size+1) ⟨to,x.cost+c,[to]⟩ (.slice (some ⟨W6.heap.size,0,none⟩) 1 1)).heap.size=W6.heap.size:=by simp [Za7]
   have FF:=hide ((Below.heap_alloc (Za7 (W6.setCell ⟨NB,2,none⟩ (.slice (some ⟨W6.heap.size,0,none⟩) 1 1)) (w.heap.size+1) ⟨to,x.cost+c,[to]⟩ (.slice (some ⟨W6.heap.size,0,none⟩) 1 1)) (.cells #[.int .i64 to] 3) (w.heap.size+1) (by rw [ez2];omega)).trans F1)
   have RW:((Za7 (W6.setCell ⟨NB,2,none⟩ (.slice (some ⟨W6.heap.size,0,none⟩) 1 1)) (w.heap.size+1) ⟨to,x.cost+c,[to]⟩ (.slice (some ⟨W6.heap.size,0,none⟩) 1 1)).alloc (.cells #[.int .i64 to] 3)).ownsRow w.heap.size 3 1 (.slice (some ⟨(Za7 (W6.setCell ⟨NB,2,none⟩ (.slice (some ⟨W6.heap.size,0,none⟩) 1 1)) (w.heap.size+1) ⟨to,x.cost+c,[to]⟩ (.slice (some ⟨W6.heap.size,0,none⟩) 1 1)).heap.size,0,none⟩) 1 1) [to].length (flat intE [to]):=World.ownsRow_lit _ #[.int .i64 to] 1 (by rw [ez2];omega) (by unfold maxLen;omega) (by simp)
   rw [ez2] at RW;have O9:=hide RW;have B9:=hide (B8.alloc (by rw [ez2];omega) (.cells #[.int .i64 to] 3))
   have HFIN:=hide (fun W (hW:W=(Za7 (W6.setCell ⟨NB,2,none⟩ (.slice (some ⟨W6.heap.size,0,none⟩) 1 1)) (w.heap.size+1) ⟨to,x.cost+c,[to]⟩ (.slice (some ⟨W6.heap.size,0,none⟩) 1 1)).alloc (.cells #[.int .i64 to] 3))=>show W.heap[w.heap.size+1]? = some (.cells (wayC ⟨to,x.cost+c,[to]⟩ (.slice (some ⟨W6.heap.size,0,none⟩) 1 1)) 48)/\W.ownsRow w.heap.size 3 1 (.slice (some ⟨W6.heap.size,0,none⟩) 1 1) [to].length (flat intE [to])/\Below w.heap.size w W by subst hW;exact⟨FF.out,O9.out,B9.out⟩)
   have QB:=(Below.heap_alloc (W6.setCell ⟨NB,2,none⟩ (.slice (some ⟨W6.heap.size,0,none⟩) 1 1)) (.cells #[.int .i64 to] 3) (w.heap.size+1) (by rw [ez];omega)).trans QA
   have fb0:=Zae QB 0;have fb1:=Zae QB 1;have fb2:=Zae QB 2;have l6:w.heap.size+1<W6.heap.size:=by omega
   clear G9 RW QA QB F1 B8 ez ez2 FF O9 B9 hl0 hx0 HZ0 HZ1 HFN HOO HBB hS6 HOH HD
   go_wp2_with fail
   (try simp only [Exit.inBlock,Exit.then])
   obtain⟨W7,hW7⟩:∃ W,W=(Za7 (W6.setCell ⟨NB,2,none⟩ (.slice (some ⟨W6.heap.size,0,none⟩) 1 1)) (w.heap.size+1) ⟨to,x.cost+c,[to]⟩ (.slice (some ⟨W6.heap.size,0,none⟩) 1 1)).alloc (.cells #[.int .i64 to] 3):=⟨_,rfl⟩;have R7:=HFIN.out W7 hW7;rw [<-hW7];refine bodyPost_ret (results_cell_row rfl _ _ (w.heap.size+1) 48 (wayC ⟨to,x.cost+c,[to]⟩ (.slice (some ⟨W6.heap.size,0,none⟩) 1 1)) (0,0) _ rfl R7.1 Tryz.underlying48 rfl (by kernel_rfl)) rfl ?_
   exact⟨_,rfl,R7.2.1,R7.2.2⟩
  ·have hDe:D=⟨to,x.cost+c,x.hops⟩:=by rw [HD.out,if_neg hx0]
   subst hDe;have hl0:x.hops.length≠0:=fun e=>hx0 (List.eq_nil_of_length_eq_zero e)
   have hlb:((x.hops.length:Int)==0)=false:=by
    have h1:¬(x.hops.length:Int)=0:=by omega
    simpa using h1
   have FF:=hide (Zdc ⟨to,x.cost+c,x.hops⟩ (.slice na x.hops.length nc) HZ1.out);have G9:=Za1 W6 (w.heap.size+1) ⟨to,x.cost+c,x.hops⟩ (.slice na x.hops.length nc);have O9:=hide (Zah (b0:=w.heap.size) (HOO.out.kept G9 (by
    cases hv:(Value.slice na x.hops.length nc).ownBlock with
    | none=>exact .inl rfl
    | some g=>exact .inr (fun e=>by have:=(HOO.out.lt g hv).1;simp at e;omega))) (by omega))
   have B9:=hide (HBB.out.grown G9 HBB.out.size (fun k hk=>by simp at hk;omega))
   have hl1:¬(x.hops.length:Int)=0:=by omega
   clear G9 hl0 hx0 HZ0 HZ1 HFN HOO HBB hS6 HOH HD
   go_wp2_with fail
   (try simp only [Exit.inBlock,Exit.then])
   refine bodyPost_ret (results_cell_row rfl _ _ (w.heap.size+1) 48 (wayC ⟨to,x.cost+c,x.hops⟩ (.slice na x.hops.length nc)) (0,0) _ rfl FF.out Tryz.underlying48 rfl (by kernel_rfl)) rfl ?_
   exact⟨_,rfl,O9.out,B9.out⟩
 exact AllReadyH.nil
end Go.Proofs.YtgdgkgmjpnbbcaaGreat
namespace Go.Proofs.YtgdgkgmjpnbbcaaGreat
open Go.RowKit

set_option linter.unusedSimpArgs false

theorem FS.popped {W W':World}{lo z n:Nat}{u u':Value}{q q':Nat->Nat}{bp:Nat->Option Nat}{wd:Nat->WayD}{wv:Nat->Value}(s:FS W lo z u (n+1) q bp wd wv)(F:FK W W' lo z)(hb':HB W' lo z (finC bp u') u' n q' wd wv)(hi:ZcN (fun k=>(wd k).cost) q' n):FS W' lo z u' n q' bp wd wv:=by
 refine⟨s.lz,hb',hi,fun v k e=>⟨?_,(s.way v k e).2⟩,fun v k e=>?_,s.short,s.apart,s.to,s.b0⟩
 ·have hj:=(s.way v k e).1
  exact (F.typed _ _ _ _ hj (by decide) (fun e=>by rw [e,s.hb.box] at hj;simp at hj)).trans hj
 ·have ho:=s.row v k e
  refine Zao ho (fun j hj=>?_)
  rcases ho.2 with ⟨e1,_⟩ | ⟨g2,cap,cur,e1,_,hh,_⟩
  ·rw [e1] at hj;cases hj
  ·rw [e1] at hj
   simp [Value.ownBlock] at hj
   subst hj;exact F.typed _ _ _ _ hh (by decide) (fun e=>by rw [e,s.hb.box] at hh;simp at hh)

theorem Zn2 {L:Nat->Nat->Int}{src:Nat}{F:Nat->Bool}{c:Nat->Int}{h:Nat->List Int}(I:Inv L src F c h){u t:Nat}(hu:0<=c u){x:WayD}(hx:x.hops=h u)(co:Int):onwD x (t:Int) co=⟨(t:Int),x.cost+co,wayL src h u t⟩:=by
 unfold onwD wayL;by_cases e:u=src
 ·have:x.hops=[]:=by rw [hx,e];exact I.start0
  rw [if_pos this,if_pos e]
 ·have:x.hops≠[]:=by rw [hx];exact I.hops_ne _ u e hu (Nat.le_refl _)
  rw [if_neg this,if_neg e,hx]

theorem Zin {L:Nat->Nat->Int}{src:Nat}{F:Nat->Bool}{c:Nat->Int}{h:Nat->List Int}(I:Inv L src F c h){u t:Nat}(ht:1<=t/\t<=6):(wayL src h u t).Pairwise (· < ·)/\∀ x,x∈wayL src h u t->1<=x/\x<=6:=by
 unfold wayL;by_cases e:u=src
 ·rw [if_pos e]
  refine⟨by simp,fun x hx=>?_⟩
  simp at hx
  omega
 ·rw [if_neg e]
  exact⟨I.asc u,I.rng u⟩

theorem Zpq {L:Nat->Nat->Int}{src:Nat}{F:Nat->Bool}{c:Nat->Int}{h:Nat->List Int}(I:Inv L src F c h){u t:Nat}(ht:1<=t/\t<=6):(wayL src h u t).length<=6:=by
 obtain⟨h1,h2⟩:=Zin I (u:=u) ht;rw [ZeP (a:=[]) (b:=wayL src h u t) h1 (fun x=>by simp) h2]
 exact Zct _ _

section
variable {L:Nat->Nat->Int} {src:Nat} {F:Nat->Bool} {c:Nat->Int} {h:Nat->List Int} {n u t:Nat} {q:Nat->Nat} {bp:Nat->Option Nat} {wd:Nat->WayD}

theorem Zmn (I:Inv L src F c h)(hl:0<L u t)(ht:1<=t/\t<=6)(g:GI (fun x=>F x||x==u) (mixC L c u t) (mixH L src c h u t) n q bp wd){kn:Nat}(hb:bp t=some kn)(hnc:¬c u+L u t<(wd kn).cost):
  (togI (wd kn) ⟨(t:Int),c u+L u t,wayL src h u t⟩).hops=ZbD L src c h u t/\Zaz L c u t=c t/\(togI (wd kn) ⟨(t:Int),c u+L u t,wayL src h u t⟩).cost=(wd kn).cost/\(togI (wd kn) ⟨(t:Int),c u+L u t,wayL src h u t⟩).to=(wd kn).to:=by
 have hc:(wd kn).cost=c t:=by have:=g.cc t;rw [Zco hb,Zdn] at this;exact this
 have hh:(wd kn).hops=h t:=by have:=g.hh t;rw [Zd9 hb,Ze7] at this;exact this
 have h0:=g.nn t kn hb;unfold togI Zbi;by_cases e:(wd kn).cost<c u+L u t
 ·have hr:=ZdG (L:=L) (src:=src) (c:=c) (h:=h) (u:=u) (v:=t) (by omega) (by omega)
  rw [if_pos (by simpa using e)]
  exact⟨by rw [hr.1];exact hh,hr.2,rfl,rfl⟩
 ·have hr:=ZeH (L:=L) (src:=src) (c:=c) (h:=h) (u:=u) (v:=t) hl (by omega) (by omega)
  rw [if_neg (by simpa using e),if_neg (by simpa using hnc)]
  refine⟨?_,hr.2,rfl,rfl⟩
  show Zck (wd kn).hops (wayL src h u t)=_
  rw [hr.1,hh];refine ZeP (Zgu _ _) (fun x=>Ze0) (fun x hx=>?_)
  rcases Ze0.1 hx with h1 | h1
  ·exact I.rng t x h1
  ·exact (Zin I ht).2 x h1

theorem ZmS (I:Inv L src F c h)(hL:Links L 1000)(hu:0<=c u):(ZbD L src c h u t).length<=6:=by
 have r:=ZeJ I hL hu t;rw [ZeP (a:=[]) (b:=ZbD L src c h u t) r.asc (fun x=>by simp) (fun x hx=>by
  rcases (r.mem x).1 hx with ⟨h1,_⟩ | ⟨h1,_,h3⟩
  ·exact I.rng t x h1
  ·have hn:=(hL.node u t h1).2
   unfold ZcO at hn;exact (Zin I (src:=src) (u:=u) hn).2 x (Zim.2 h3))]
 exact Zct _ _

theorem Zlo (I:Inv L src F c h)(hl:0<L u t)(ht:1<=t/\t<=6)(g:GI (fun x=>F x||x==u) (mixC L c u t) (mixH L src c h u t) n q bp wd){kn:Nat}(hb:bp t=some kn)(hnc:¬c u+L u t<(wd kn).cost):
  GI (fun x=>F x||x==u) (mixC L c u (t+1)) (mixH L src c h u (t+1)) n q bp (upd wd kn (togI (wd kn) ⟨(t:Int),c u+L u t,wayL src h u t⟩)):=by
 obtain⟨j1,j2,j3,j4⟩:=Zmn I hl ht g hb hnc;have:=g.join hb j3 j4;rw [j1] at this;rw [ZcR j2,Zcd];exact this

theorem Zlp (I:Inv L src F c h)(hF:F u=false)(hu:0<=c u)(hl:0<L u t)(ht:1<=t/\t<=6)(g:GI (fun x=>F x||x==u) (mixC L c u t) (mixH L src c h u t) n q bp wd){k:Nat}{q':Nat->Nat}
  (hcase:bp t=none\/∃ kn,bp t=some kn/\c u+L u t<(wd kn).cost) (hk1:∀ i,i<n->q i≠k) (hk2:∀ v,bp v≠some k) (hs:Shuf (fun y=>if y=n then k else q y) q' (n+1)):
  GI (fun x=>F x||x==u) (mixC L c u (t+1)) (mixH L src c h u (t+1)) (n+1) q' (upd bp t (some k)) (upd wd k ⟨(t:Int),c u+L u t,wayL src h u t⟩):=by
 have hc:c t<0\/c u+L u t<c t:=by
  have h1:=g.cc t;rw [Zdn] at h1
  rcases hcase with e | ⟨kn,e,h2⟩
  ·rw [Zf4 e] at h1;omega
  ·rw [Zco e] at h1;omega
 have hFt:(F t||t==u)=false:=by
  cases e:F t with
  | true=>
   have h1:=I.mono t u e hF hu;have h2:=(I.fnode t e).2;omega
  | false=>
   by_cases e2:t=u
   ·subst e2;omega
   ·simp [e2]
 have hr:=ZcW (L:=L) (src:=src) (c:=c) (h:=h) (u:=u) (v:=t) hl hc;have hw:=Zin I (u:=u) ht;have hway:wayL src h u t=ZbD L src c h u t:=by
  rw [hr.1];exact ZeP hw.1 (fun x=>by simp) hw.2
 have:=g.push (t:=t) (k:=k) (x:=⟨(t:Int),c u+L u t,wayL src h u t⟩) hFt rfl (by rw [Zdn];exact hc) hk1 hk2 hs (by show 0<=c u+L u t;omega)
 rw [Zdo,Zcd,hr.2, <-hway];exact this

theorem Zlq (hl:¬0<L u t)(g:GI (fun x=>F x||x==u) (mixC L c u t) (mixH L src c h u t) n q bp wd):GI (fun x=>F x||x==u) (mixC L c u (t+1)) (mixH L src c h u (t+1)) n q bp wd:=by
 have hr:=ZeI (src:=src) (c:=c) (h:=h) hl;rw [ZcR hr.2,Ze6 hr.1];exact g
end

def GO (W:World)(lo z:Nat)(L:Nat->Nat->Int)(src m:Nat):Prop:=
 ∃ u n q bp wd wv F c h,FS W lo z u n q bp wd wv/\GI F c h n q bp wd/\Inv L src F c h/\(∀ v,c v<=1000*(Zb8 F:Int))/\m=7*(6-Zb8 F)+n

def GEnd (W:World)(lo z:Nat)(L:Nat->Nat->Int)(src:Nat):Prop:=
 ∃ u q bp wd wv c h,FS W lo z u 0 q bp wd wv/\(∀ v,cOf bp wd v=c v)/\(∀ v,hOf bp wd v=h v)/\(∀ v k,bp v=some k->0<=(wd k).cost)/\Fix L src c h

theorem GI.end {L:Nat->Nat->Int}{src:Nat}{F:Nat->Bool}{c:Nat->Int}{h:Nat->List Int}{q:Nat->Nat}{bp:Nat->Option Nat}{wd:Nat->WayD}(g:GI F c h 0 q bp wd)(I:Inv L src F c h):Fix L src c h:=by
 refine⟨F,I,fun v hv=>?_⟩
 cases e:F v with
 | true=>rfl
 | false=>
  have h1:=g.cc v;cases e2:bp v with
  | none=>rw [Zf4 e2] at h1;omega
  | some k=>
   obtain⟨i,hi,_⟩:=g.live v k e2 e;omega

theorem GI.stale {F:Nat->Bool}{c:Nat->Int}{h:Nat->List Int}{n:Nat}{q q':Nat->Nat}{bp:Nat->Option Nat}{wd:Nat->WayD}(g:GI F c h (n+1) q bp wd)(hs:Shuf (Zcf q 0 n) q' n){v kb:Nat}(hto:(wd (q 0)).to=(v:Int))(hb:bp v=some kb)(hlt:(wd kb).cost<(wd (q 0)).cost):GI F c h n q' bp wd:=by
 refine g.pop hs (fun _ e=>e) (fun v' k e hF e2=>?_) (fun v' e1 e2=>by rw [e1] at e2;cases e2)
 subst e2;have h1:=g.to v' _ e;have:v'=v:=by omega
 subst this;rw [hb] at e;cases e
 omega

theorem GI.fresh {F:Nat->Bool}{c:Nat->Int}{h:Nat->List Int}{n:Nat}{q q':Nat->Nat}{bp:Nat->Option Nat}{wd:Nat->WayD}(g:GI F c h (n+1) q bp wd)(hs:Shuf (Zcf q 0 n) q' n)(hh:ZcN (fun k=>(wd k).cost) q (n+1)){v kb:Nat}(hto:(wd (q 0)).to=(v:Int))(hb:bp v=some kb)(hlt:¬(wd kb).cost<(wd (q 0)).cost):
  GI (fun x=>F x||x==v) c h n q' bp wd/\q 0=kb/\F v=false/\0<=c v/\(wd (q 0)).cost=c v/\(wd (q 0)).hops=h v/\∀ v',F v'=false->0<=c v'->c v<=c v':=by
 obtain⟨v2,kb2,e1,e2,e3⟩:=g.ent 0 (by omega)
 have hv:v2=v:=by omega
 subst hv;rw [hb] at e2;cases e2
 rcases e3 with ⟨e4,e5⟩ | e4
 ·have hcv:(wd (q 0)).cost=c v2:=by have:=g.cc v2;rw [Zco hb] at this;rw [e4];exact this
  have hhv:(wd (q 0)).hops=h v2:=by have:=g.hh v2;rw [Zd9 hb] at this;rw [e4];exact this
  have h0:=g.nn v2 kb hb;refine⟨g.pop hs (fun v' e=>?_) (fun v' k e hF e6=>?_) (fun v' e6 e7=>?_),e4,e5,by rw [<-hcv,e4];exact h0,hcv,hhv,fun v' hF hc=>?_⟩
  ·cases e6:F v' with
   | false=>rfl
   | true=>rw [e6] at e;simp at e
  ·subst e6
   have h1:=g.to v' _ e;have h2:v'=v2:=by omega
   subst h2;simp at hF
  ·rw [e6] at e7
   have h1:v'=v2:=by simpa using e7
   subst h1;rw [hb,e4]
  ·have h1:=g.cc v'
   cases e6:bp v' with
   | none=>rw [Zf4 e6] at h1;omega
   | some k'=>
    rw [Zco e6] at h1;obtain⟨i,hi,e7⟩:=g.live v' k' e6 hF;have h2:=ZiP hh i i (Nat.le_refl _) hi;have h3:(wd (q 0)).cost<=(wd (q i)).cost:=h2;rw [e7] at h3;omega
 ·exact absurd e4 hlt
end Go.Proofs.YtgdgkgmjpnbbcaaGreat
