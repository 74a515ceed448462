/-
  OnwI ILinked ILinkR GoOnK
-/
import Derived.Test.YtnndlmodjkplnaaGreatDoorFw16
import Derived.Test.YtnndlmodjkplnaaGreatDoorFw14
import Derived.Test.YtnndlmodjkplnaaGreatDoorFw5
import Derived.Test.YtnndlmodjkplnaaGreatDoorFw21
namespace Go.Proofs.YtnndlmodjkplnaaGreatDoor
open Go.RowKit
set_option linter.unusedSimpArgs false
set_option linter.unusedVariables false
set_option maxRecDepth 100000
set_option maxHeartbeats 8000000
theorem World.size_alloc_drew (w:World)(o:Obj):(w.drew.alloc o).heap.size=w.heap.size+1:=by
 have:(w.drew.alloc o).heap.size=w.drew.heap.size+1:=by simp
 exact this
def onwD (x:WayD)(to c:Int):WayD:=if x.hops=[] then ⟨to,x.cost+c,[to]⟩ else ⟨to,x.cost+c,x.hops⟩
theorem Zl1 (x:WayD)(vx:Value)(bx:Nat)(to c:Int)(w:World)(hx:w.ownsRow bx 3 1 vx x.hops.length (flat intE x.hops))(hlx:x.hops.length<=1048576)(h0:0<=x.cost+c)(h1:x.cost+c<=1000000):
  Calls Tryz.prog 177 #[.agg (wayC x vx),.int .i64 to,.int .i64 c] w fun e w'=>∃ u,e=.returned (.agg (wayC (onwD x to c) u))/\w'.ownsRow w.heap.size 3 1 u (onwD x to c).hops.length (flat intE (onwD x to c).hops)/\Below w.heap.size w w':=by
 obtain⟨D,hD⟩:∃ D,D=onwD x to c:=⟨_,rfl⟩;rw [<-hD];unfold onwD at hD;have HD:=hide hD;clear hD;obtain⟨p1,q1,rfl⟩:=Zac hx;have HOH:=hide (fun W (hb:Below w.heap.size w W)=>Zeo x.hops (.slice p1 x.hops.length q1) bx W (Zaf hx hb (Nat.le_refl _)) hlx)
 clear hx;have hwc:IntKind.i64.wrap (x.cost+c)=x.cost+c:=ZaC _ (by omega) (by omega)
 have m0:((w.alloc (.cells #[.int .i64 x.to,.int .i64 x.cost,.slice p1 x.hops.length q1] 104)).alloc (.cells #[.int .i64 0,.int .i64 0,.slice none 0 0] 104)).heap[w.heap.size]? = some (.cells #[.int .i64 x.to,.int .i64 x.cost,.slice p1 x.hops.length q1] 104):=by
  rw [Below.heap_alloc _ _ _ (by simp),heap_alloc_new]
 have m1:((w.alloc (.cells #[.int .i64 x.to,.int .i64 x.cost,.slice p1 x.hops.length q1] 104)).alloc (.cells #[.int .i64 0,.int .i64 0,.slice none 0 0] 104)).heap[w.heap.size+1]? = some (.cells #[.int .i64 0,.int .i64 0,.slice none 0 0] 104):=by
  have e:=heap_alloc_new (w.alloc (.cells #[.int .i64 x.to,.int .i64 x.cost,.slice p1 x.hops.length q1] 104)) (.cells #[.int .i64 0,.int .i64 0,.slice none 0 0] 104);rw [show (w.alloc (.cells #[.int .i64 x.to,.int .i64 x.cost,.slice p1 x.hops.length q1] 104)).heap.size=w.heap.size+1 by simp] at e
  exact e
 have BQ:Below w.heap.size w ((w.alloc (.cells #[.int .i64 x.to,.int .i64 x.cost,.slice p1 x.hops.length q1] 104)).alloc (.cells #[.int .i64 0,.int .i64 0,.slice none 0 0] 104)):=((Below.refl w.heap.size w).alloc (by simp) _).alloc (by simp) _
 obtain⟨w1,hw1⟩:∃ W,W=((w.alloc (.cells #[.int .i64 x.to,.int .i64 x.cost,.slice p1 x.hops.length q1] 104)).alloc (.cells #[.int .i64 0,.int .i64 0,.slice none 0 0] 104)):=⟨_,rfl⟩;rw [<-hw1] at m0 m1 BQ;have s1:=Zaa m0 1;have s2:=Zaa m0 2;simp at s1 s2
 unfold wayC
 go_enter Tryz.func177,Tryz.ntmps177
 go_wp2
 rw [<-hw1];clear hw1;refine wp_region_noPanic ?_
 have hS0:w1.drew.cell? ⟨w.heap.size,1,none⟩=some (.int .i64 x.cost)/\w1.drew.cell? ⟨w.heap.size,2,none⟩=some (.slice p1 x.hops.length q1):=⟨s1,s2⟩;refine Zam (S:=fun W=>W.cell? ⟨w.heap.size,1,none⟩=some (.int .i64 x.cost)/\W.cell? ⟨w.heap.size,2,none⟩=some (.slice p1 x.hops.length q1)) (by kernel_rfl) 11 rfl hS0 ?_
 intro ops hops _
 show wpAnyH Tryz.prog .any ops _ _ 11 #[false,false,false,false,false,false,false,false,false,false,false] _ w1.drew
 iterate 7
  refine Zar 11 ?_ ?_ ?_ (by rw [hops.out];kernel_rfl) ?_ ?_ (by assumption) ?_
  rotate_left 2
  ·rw [hops.out];simp only [getS,Nat.reduceSub,Nat.reduceAdd];rfl
  ·intro W hW;obtain⟨k1,k2⟩:=hW;go_simp <;> with_reducible rfl
  ·exact fun _ _ _=>id
  try simp only [putS]
 refine wpAnyH_ready (rs:=[7,9]) (by rw [hops.out];kernel_rfl) (by simp) ?_
 refine AllReadyH.cons (o:=?_) ?_ (fun K hK=>?_) ?_
 rotate_left 1
 ·rw [hops.out];simp only [getS];rfl
 ·rw [if_pos (by rfl)]
  go_simp
  refine (HOH.out _ (Zlt BQ)).mono ?_
  rintro e w4 ⟨u,rfl,hn2,b2⟩;obtain⟨na,nc,rfl⟩:=Zac hn2;have hK2:w4.cell? ⟨w.heap.size,1,none⟩=some (.int .i64 x.cost)/\w4.cell? ⟨w.heap.size,2,none⟩=some (.slice p1 x.hops.length q1):=⟨by rw [b2.cell (by exact Zab m0)];exact s1,by rw [b2.cell (by exact Zab m0)];exact s2⟩
  refine hK.out _ _ hK2 (fun _=>?_)
  clear hK K
  try simp only [putS]
  refine ZaW 8 ?_ ?_ ?_ (by rw [hops.out];kernel_rfl) ?_ ?_ (by assumption) ?_
  rotate_left 2
  ·rw [hops.out];simp only [getS];rfl
  ·intro W hW;obtain⟨k1,k2⟩:=hW;go_simp <;> with_reducible rfl
  ·exact fun _ _ _=>id
  try simp only [putS]
  refine Zao 9 (oi:=?_) ?_ (by rw [hops.out];kernel_rfl) ?_ ?_
  rotate_left 1
  ·rw [hops.out];simp only [getS];rfl
  ·rw [hops.out];kernel_rfl
  intro K hK
  go_simp
  have hK3:(w4.alloc (.cells #[.int .i64 0,.int .i64 0,.slice none 0 0] 104)).cell? ⟨w.heap.size,1,none⟩=some (.int .i64 x.cost)/\(w4.alloc (.cells #[.int .i64 0,.int .i64 0,.slice none 0 0] 104)).cell? ⟨w.heap.size,2,none⟩=some (.slice p1 x.hops.length q1):=⟨by rw [World.cell?_of_block (w:=w4) (Below.heap_alloc _ _ _ (by have h1:=Zab m0;have h2:=b2.size;have h3:w1.heap.size<=w4.heap.size:=h2;exact Nat.lt_of_lt_of_le h1 h3))];exact hK2.1,by rw [World.cell?_of_block (w:=w4) (Below.heap_alloc _ _ _ (by have h1:=Zab m0;have h2:=b2.size;have h3:w1.heap.size<=w4.heap.size:=h2;exact Nat.lt_of_lt_of_le h1 h3))];exact hK2.2⟩
  refine hK.out _ _ hK3 (fun _=>?_)
  clear hK K
  try simp only [putS]
  have h41:w1.heap.size<=w4.heap.size:=b2.size;have l1:=Zab m1;have z0:=(Below.heap_alloc w4 (.cells #[.int .i64 0,.int .i64 0,.slice none 0 0] 104) _ (by omega)).trans ((b2.block _ (Zab m0)).trans m0)
  have z1:=(Below.heap_alloc w4 (.cells #[.int .i64 0,.int .i64 0,.slice none 0 0] 104) _ (by omega)).trans ((b2.block _ (Zab m1)).trans m1)
  have zn:=heap_alloc_new w4 (.cells #[.int .i64 0,.int .i64 0,.slice none 0 0] 104);have ho:=Zah (b0:=w.heap.size+2) (hn2.alloc (.cells #[.int .i64 0,.int .i64 0,.slice none 0 0] 104)) (by show w.heap.size+2<=w1.heap.size;omega)
  have hB:Below w.heap.size w (w4.alloc (.cells #[.int .i64 0,.int .i64 0,.slice none 0 0] 104)):=((Zlt BQ).trans (b2.mono BQ.size)).alloc (by omega) _
  have hnb:w.heap.size+1<w4.heap.size:=by omega
  have hvn:∀ g,(Value.slice na x.hops.length nc).ownBlock=some g->g≠w4.heap.size:=fun g hv=>by have:=(hn2.lt g hv).2;omega
  clear hn2 b2 hK2;generalize (w4.alloc (.cells #[.int .i64 0,.int .i64 0,.slice none 0 0] 104))=W5 at *;have u0:=Zaa zn 0;have u1:=Zaa zn 1;have u2:=Zaa zn 2;simp at u0 u1 u2
  have fu:=Zae zn;have FN:=Zc4 (⟨to,x.cost+c,x.hops⟩:WayD) (.slice na x.hops.length nc) zn;have G8:=Za0 W5 w4.heap.size (⟨to,x.cost+c,x.hops⟩:WayD) (.slice na x.hops.length nc);have ZZ0:=(G8.block _ (Zab z0) (by simp;omega)).trans z0
  have ZZ1:=(G8.block _ (Zab z1) (by simp;omega)).trans z1
  have OO:=ho.kept G8 (by
   cases hv:(Value.slice na x.hops.length nc).ownBlock with
   | none=>exact .inl rfl
   | some g=>exact .inr (fun e=>hvn g hv (by simpa using e)))
  have BB:=hB.grown G8 hB.size (fun k hk=>by simp at hk;omega)
  have hS6:(Zbd W5 w4.heap.size (⟨to,x.cost+c,x.hops⟩:WayD) (.slice na x.hops.length nc)).cell? ⟨w.heap.size,1,none⟩=some (.int .i64 x.cost)/\(Zbd W5 w4.heap.size (⟨to,x.cost+c,x.hops⟩:WayD) (.slice na x.hops.length nc)).cell? ⟨w.heap.size,2,none⟩=some (.slice p1 x.hops.length q1):=⟨by have e:=Zaa ZZ0 1;simpa using e,by have e:=Zaa ZZ0 2;simpa using e⟩
  obtain⟨W6,hW6⟩:∃ W,W=((W5.setCell ⟨w4.heap.size,0,none⟩ (.int .i64 to)).setCell ⟨w4.heap.size,1,none⟩ (.int .i64 (x.cost+c))).setCell ⟨w4.heap.size,2,none⟩ (.slice na x.hops.length nc):=⟨_,rfl⟩;have e6:W6=Zbd W5 w4.heap.size (⟨to,x.cost+c,x.hops⟩:WayD) (.slice na x.hops.length nc):=hW6;rw [<-e6] at FN ZZ0 ZZ1 OO BB hS6;have HW6:=hide hW6;clear e6 hW6;have hnbB:=hnb;have HFN:=hide FN;have HZ0:=hide ZZ0;have HZ1:=hide ZZ1;have HOO:=hide OO;have HBB:=hide BB;clear FN G8 ZZ0 ZZ1 OO BB zn z0 z1 ho hB hvn;refine Zao 10 (oi:=?_) ?_ (by rw [hops.out];kernel_rfl) ?_ ?_
  rotate_left 1
  ·rw [hops.out];simp only [getS];rfl
  ·rw [hops.out];kernel_rfl
  intro K hK
  go_simp
  rw [<-HW6.out];refine hK.out _ _ hS6 (fun _=>?_)
  clear hK K
  try simp only [putS]
  refine wpAnyH_done (by rw [hops.out];kernel_rfl) ?_ _
  clear hops ops u0 u1 u2 fu;refine NoPanic.normal ?_
  clear HW6;obtain⟨NB,hNB⟩:∃ k,k=w4.heap.size:=⟨_,rfl⟩;rw [<-hNB] at HFN hnbB |-;clear hNB;clear m0 m1 s1 s2 hS0 BQ;have s2:=hS6.2;have f0:=Zaa HFN.out 0;have f1:=Zaa HFN.out 1;have f2:=Zaa HFN.out 2;simp [wayC] at f0 f1 f2
  have ff:=Zae HFN.out;have v0:=Zaa HZ1.out 0;have v1:=Zaa HZ1.out 1;have v2:=Zaa HZ1.out 2;simp at v0 v1 v2
  have fv:=Zae HZ1.out;have lnB:=Zab HFN.out;by_cases hx0:x.hops=[]
  ·have hDe:D=⟨to,x.cost+c,[to]⟩:=by rw [HD.out,if_pos hx0]
   subst hDe;have hl0:x.hops.length=0:=by rw [hx0];rfl
   have hlb:((x.hops.length:Int)==0)=true:=by rw [hl0];rfl
   have ez:(W6.setCell ⟨NB,2,none⟩ (.slice (some ⟨W6.heap.size,0,none⟩) 1 1)).heap.size=W6.heap.size:=by simp
   have QA:(W6.setCell ⟨NB,2,none⟩ (.slice (some ⟨W6.heap.size,0,none⟩) 1 1)).heap[w.heap.size+1]? = some (.cells #[.int .i64 0,.int .i64 0,.slice none 0 0] 104):=by
    rw [heap_setCell_other W6 ⟨NB,2,none⟩ _ _ (by show w.heap.size+1≠NB;omega)]
    exact HZ1.out
   have F1:=Zc4 ⟨to,x.cost+c,[to]⟩ (.slice (some ⟨W6.heap.size,0,none⟩) 1 1) QA;have G9:=Za0 (W6.setCell ⟨NB,2,none⟩ (.slice (some ⟨W6.heap.size,0,none⟩) 1 1)) (w.heap.size+1) ⟨to,x.cost+c,[to]⟩ (.slice (some ⟨W6.heap.size,0,none⟩) 1 1);have B8:=(HBB.out.setCell (p:=⟨NB,2,none⟩) (by show w.heap.size<=NB;omega) (.slice (some ⟨W6.heap.size,0,none⟩) 1 1)).grown G9 (by rw [ez];omega) (fun k hk=>by simp at hk;omega)
   have ez2:(Zbd (W6.setCell ⟨NB,2,none⟩ (.slice (some ⟨W6.heap.size,0,none⟩) 1 1)) (w.heap.size+1) ⟨to,x.cost+c,[to]⟩ (.slice (some ⟨W6.heap.size,0,none⟩) 1 1)).heap.size=W6.heap.size:=by simp [Zbd]
   have FF:=hide ((Below.heap_alloc (Zbd (W6.setCell ⟨NB,2,none⟩ (.slice (some ⟨W6.heap.size,0,none⟩) 1 1)) (w.heap.size+1) ⟨to,x.cost+c,[to]⟩ (.slice (some ⟨W6.heap.size,0,none⟩) 1 1)) (.cells #[.int .i64 to] 3) (w.heap.size+1) (by rw [ez2];omega)).trans F1)
   have RW:((Zbd (W6.setCell ⟨NB,2,none⟩ (.slice (some ⟨W6.heap.size,0,none⟩) 1 1)) (w.heap.size+1) ⟨to,x.cost+c,[to]⟩ (.slice (some ⟨W6.heap.size,0,none⟩) 1 1)).alloc (.cells #[.int .i64 to] 3)).ownsRow w.heap.size 3 1 (.slice (some ⟨(Zbd (W6.setCell ⟨NB,2,none⟩ (.slice (some ⟨W6.heap.size,0,none⟩) 1 1)) (w.heap.size+1) ⟨to,x.cost+c,[to]⟩ (.slice (some ⟨W6.heap.size,0,none⟩) 1 1)).heap.size,0,none⟩) 1 1) [to].length (flat intE [to]):=World.ownsRow_lit _ #[.int .i64 to] 1 (by rw [ez2];omega) (by unfold maxLen;omega) (by simp)
   rw [ez2] at RW;have O9:=hide RW;have B9:=hide (B8.alloc (by rw [ez2];omega) (.cells #[.int .i64 to] 3))
   have HFIN:=hide (fun W (hW:W=(Zbd (W6.setCell ⟨NB,2,none⟩ (.slice (some ⟨W6.heap.size,0,none⟩) 1 1)) (w.heap.size+1) ⟨to,x.cost+c,[to]⟩ (.slice (some ⟨W6.heap.size,0,none⟩) 1 1)).alloc (.cells #[.int .i64 to] 3))=>show W.heap[w.heap.size+1]? = some (.cells (wayC ⟨to,x.cost+c,[to]⟩ (.slice (some ⟨W6.heap.size,0,none⟩) 1 1)) 104)/\W.ownsRow w.heap.size 3 1 (.slice (some ⟨W6.heap.size,0,none⟩) 1 1) [to].length (flat intE [to])/\Below w.heap.size w W by subst hW;exact⟨FF.out,O9.out,B9.out⟩)
   have QB:=(Below.heap_alloc (W6.setCell ⟨NB,2,none⟩ (.slice (some ⟨W6.heap.size,0,none⟩) 1 1)) (.cells #[.int .i64 to] 3) (w.heap.size+1) (by rw [ez];omega)).trans QA
   have fb0:=Zae QB 0;have fb1:=Zae QB 1;have fb2:=Zae QB 2;have l6:w.heap.size+1<W6.heap.size:=by omega
   clear G9 RW QA QB F1 B8 ez ez2 FF O9 B9 hl0 hx0 HZ0 HZ1 HFN HOO HBB hS6 HOH HD
   go_wp2_with fail
   (try simp only [Exit.inBlock,Exit.then])
   obtain⟨W7,hW7⟩:∃ W,W=(Zbd (W6.setCell ⟨NB,2,none⟩ (.slice (some ⟨W6.heap.size,0,none⟩) 1 1)) (w.heap.size+1) ⟨to,x.cost+c,[to]⟩ (.slice (some ⟨W6.heap.size,0,none⟩) 1 1)).alloc (.cells #[.int .i64 to] 3):=⟨_,rfl⟩;have R7:=HFIN.out W7 hW7;rw [<-hW7];refine bodyPost_ret (results_cell_row rfl _ _ (w.heap.size+1) 104 (wayC ⟨to,x.cost+c,[to]⟩ (.slice (some ⟨W6.heap.size,0,none⟩) 1 1)) (0,0) _ rfl R7.1 Tryz.underlying104 rfl (by kernel_rfl)) rfl ?_
   exact⟨_,rfl,R7.2.1,R7.2.2⟩
  ·have hDe:D=⟨to,x.cost+c,x.hops⟩:=by rw [HD.out,if_neg hx0]
   subst hDe;have hl0:x.hops.length≠0:=fun e=>hx0 (List.eq_nil_of_length_eq_zero e)
   have hlb:((x.hops.length:Int)==0)=false:=by
    have h1:¬(x.hops.length:Int)=0:=by omega
    simpa using h1
   have FF:=hide (Zc4 ⟨to,x.cost+c,x.hops⟩ (.slice na x.hops.length nc) HZ1.out);have G9:=Za0 W6 (w.heap.size+1) ⟨to,x.cost+c,x.hops⟩ (.slice na x.hops.length nc);have O9:=hide (Zah (b0:=w.heap.size) (HOO.out.kept G9 (by
    cases hv:(Value.slice na x.hops.length nc).ownBlock with
    | none=>exact .inl rfl
    | some g=>exact .inr (fun e=>by have:=(HOO.out.lt g hv).1;simp at e;omega))) (by omega))
   have B9:=hide (HBB.out.grown G9 HBB.out.size (fun k hk=>by simp at hk;omega))
   have hl1:¬(x.hops.length:Int)=0:=by omega
   clear G9 hl0 hx0 HZ0 HZ1 HFN HOO HBB hS6 HOH HD
   go_wp2_with fail
   (try simp only [Exit.inBlock,Exit.then])
   refine bodyPost_ret (results_cell_row rfl _ _ (w.heap.size+1) 104 (wayC ⟨to,x.cost+c,x.hops⟩ (.slice na x.hops.length nc)) (0,0) _ rfl FF.out Tryz.underlying104 rfl (by kernel_rfl)) rfl ?_
   exact⟨_,rfl,O9.out,B9.out⟩
 refine AllReadyH.cons (o:=?_) ?_ (fun K hK=>?_) ?_
 rotate_left 1
 ·rw [hops.out];simp only [getS];rfl
 ·rw [if_pos (by rfl)]
  go_simp
  have hK2:(w1.drew.alloc (.cells #[.int .i64 0,.int .i64 0,.slice none 0 0] 104)).cell? ⟨w.heap.size,1,none⟩=some (.int .i64 x.cost)/\(w1.drew.alloc (.cells #[.int .i64 0,.int .i64 0,.slice none 0 0] 104)).cell? ⟨w.heap.size,2,none⟩=some (.slice p1 x.hops.length q1):=⟨by rw [World.cell?_of_block (w:=w1.drew) (Below.heap_alloc _ _ _ (by exact Zab m0))];exact s1,by rw [World.cell?_of_block (w:=w1.drew) (Below.heap_alloc _ _ _ (by exact Zab m0))];exact s2⟩
  refine hK.out _ _ hK2 (fun _=>?_)
  clear hK K
  try simp only [putS]
  refine Zao 7 (oi:=?_) ?_ (by rw [hops.out];kernel_rfl) ?_ ?_
  rotate_left 1
  ·rw [hops.out];simp only [getS];rfl
  ·rw [hops.out];kernel_rfl
  intro K hK
  go_simp
  refine (HOH.out (w1.drew.alloc (.cells #[.int .i64 0,.int .i64 0,.slice none 0 0] 104)) ((Zlt BQ).alloc (by exact BQ.size) _)).mono ?_
  rintro e w4 ⟨u,rfl,hn2,b2⟩;obtain⟨na,nc,rfl⟩:=Zac hn2;have l0:w.heap.size<(w1.drew.alloc (.cells #[.int .i64 0,.int .i64 0,.slice none 0 0] 104)).heap.size:=by
   have h1:=Zab m0;have h2:(w1.drew.alloc (.cells #[.int .i64 0,.int .i64 0,.slice none 0 0] 104)).heap.size=w1.heap.size+1:=by
    rw [World.size_alloc_drew]
   omega
  have hK3:w4.cell? ⟨w.heap.size,1,none⟩=some (.int .i64 x.cost)/\w4.cell? ⟨w.heap.size,2,none⟩=some (.slice p1 x.hops.length q1):=⟨by rw [b2.cell l0];exact hK2.1,by rw [b2.cell l0];exact hK2.2⟩
  refine hK.out _ _ hK3 (fun _=>?_)
  clear hK K
  try simp only [putS]
  refine ZaW 8 ?_ ?_ ?_ (by rw [hops.out];kernel_rfl) ?_ ?_ (by assumption) ?_
  rotate_left 2
  ·rw [hops.out];simp only [getS];rfl
  ·intro W hW;obtain⟨k1,k2⟩:=hW;go_simp <;> with_reducible rfl
  ·exact fun _ _ _=>id
  try simp only [putS]
  have hsA:(w1.drew.alloc (.cells #[.int .i64 0,.int .i64 0,.slice none 0 0] 104)).heap.size=w1.heap.size+1:=World.size_alloc_drew w1 _;have l1:=Zab m1;have z0:=(b2.block _ l0).trans ((Below.heap_alloc w1.drew (.cells #[.int .i64 0,.int .i64 0,.slice none 0 0] 104) _ (by exact Zab m0)).trans m0)
  have z1:=(b2.block _ (by omega)).trans ((Below.heap_alloc w1.drew (.cells #[.int .i64 0,.int .i64 0,.slice none 0 0] 104) _ (by exact Zab m1)).trans m1)
  have zn:=(b2.block _ (by rw [hsA];exact Nat.lt_succ_self w1.heap.size)).trans (heap_alloc_new w1.drew (.cells #[.int .i64 0,.int .i64 0,.slice none 0 0] 104))
  have ho:=Zah (b0:=w.heap.size+2) hn2 (by omega)
  have hB:Below w.heap.size w w4:=((Zlt BQ).alloc (by exact BQ.size) _).trans (b2.mono (by omega))
  have hnb:w.heap.size+1<w1.heap.size:=l1;have hvn:∀ g,(Value.slice na x.hops.length nc).ownBlock=some g->g≠w1.heap.size:=fun g hv=>by have:=(hn2.lt g hv).1;omega
  have zn:w4.heap[w1.heap.size]? = some (.cells #[.int .i64 0,.int .i64 0,.slice none 0 0] 104):=zn;clear hn2 b2 hK2 hK3;have u0:=Zaa zn 0;have u1:=Zaa zn 1;have u2:=Zaa zn 2;simp at u0 u1 u2
  have fu:=Zae zn;have FN:=Zc4 (⟨to,x.cost+c,x.hops⟩:WayD) (.slice na x.hops.length nc) zn;have G8:=Za0 w4 w1.heap.size (⟨to,x.cost+c,x.hops⟩:WayD) (.slice na x.hops.length nc);have ZZ0:=(G8.block _ (Zab z0) (by simp;omega)).trans z0
  have ZZ1:=(G8.block _ (Zab z1) (by simp;omega)).trans z1
  have OO:=ho.kept G8 (by
   cases hv:(Value.slice na x.hops.length nc).ownBlock with
   | none=>exact .inl rfl
   | some g=>exact .inr (fun e=>hvn g hv (by simpa using e)))
  have BB:=hB.grown G8 hB.size (fun k hk=>by simp at hk;omega)
  have hS6:(Zbd w4 w1.heap.size (⟨to,x.cost+c,x.hops⟩:WayD) (.slice na x.hops.length nc)).cell? ⟨w.heap.size,1,none⟩=some (.int .i64 x.cost)/\(Zbd w4 w1.heap.size (⟨to,x.cost+c,x.hops⟩:WayD) (.slice na x.hops.length nc)).cell? ⟨w.heap.size,2,none⟩=some (.slice p1 x.hops.length q1):=⟨by have e:=Zaa ZZ0 1;simpa using e,by have e:=Zaa ZZ0 2;simpa using e⟩
  obtain⟨W6,hW6⟩:∃ W,W=((w4.setCell ⟨w1.heap.size,0,none⟩ (.int .i64 to)).setCell ⟨w1.heap.size,1,none⟩ (.int .i64 (x.cost+c))).setCell ⟨w1.heap.size,2,none⟩ (.slice na x.hops.length nc):=⟨_,rfl⟩;have e6:W6=Zbd w4 w1.heap.size (⟨to,x.cost+c,x.hops⟩:WayD) (.slice na x.hops.length nc):=hW6;rw [<-e6] at FN ZZ0 ZZ1 OO BB hS6;have HW6:=hide hW6;clear e6 hW6;have hnbB:=hnb;have HFN:=hide FN;have HZ0:=hide ZZ0;have HZ1:=hide ZZ1;have HOO:=hide OO;have HBB:=hide BB;clear FN G8 ZZ0 ZZ1 OO BB zn z0 z1 ho hB hvn;refine Zao 10 (oi:=?_) ?_ (by rw [hops.out];kernel_rfl) ?_ ?_
  rotate_left 1
  ·rw [hops.out];simp only [getS];rfl
  ·rw [hops.out];kernel_rfl
  intro K hK
  go_simp
  rw [<-HW6.out];refine hK.out _ _ hS6 (fun _=>?_)
  clear hK K
  try simp only [putS]
  refine wpAnyH_done (by rw [hops.out];kernel_rfl) ?_ _
  clear hops ops u0 u1 u2 fu;refine NoPanic.normal ?_
  clear HW6;obtain⟨NB,hNB⟩:∃ k,k=w1.heap.size:=⟨_,rfl⟩;rw [<-hNB] at HFN hnbB |-;clear hNB;clear m0 m1 s1 s2 hS0 BQ;have s2:=hS6.2;have f0:=Zaa HFN.out 0;have f1:=Zaa HFN.out 1;have f2:=Zaa HFN.out 2;simp [wayC] at f0 f1 f2
  have ff:=Zae HFN.out;have v0:=Zaa HZ1.out 0;have v1:=Zaa HZ1.out 1;have v2:=Zaa HZ1.out 2;simp at v0 v1 v2
  have fv:=Zae HZ1.out;have lnB:=Zab HFN.out;by_cases hx0:x.hops=[]
  ·have hDe:D=⟨to,x.cost+c,[to]⟩:=by rw [HD.out,if_pos hx0]
   subst hDe;have hl0:x.hops.length=0:=by rw [hx0];rfl
   have hlb:((x.hops.length:Int)==0)=true:=by rw [hl0];rfl
   have ez:(W6.setCell ⟨NB,2,none⟩ (.slice (some ⟨W6.heap.size,0,none⟩) 1 1)).heap.size=W6.heap.size:=by simp
   have QA:(W6.setCell ⟨NB,2,none⟩ (.slice (some ⟨W6.heap.size,0,none⟩) 1 1)).heap[w.heap.size+1]? = some (.cells #[.int .i64 0,.int .i64 0,.slice none 0 0] 104):=by
    rw [heap_setCell_other W6 ⟨NB,2,none⟩ _ _ (by show w.heap.size+1≠NB;omega)]
    exact HZ1.out
   have F1:=Zc4 ⟨to,x.cost+c,[to]⟩ (.slice (some ⟨W6.heap.size,0,none⟩) 1 1) QA;have G9:=Za0 (W6.setCell ⟨NB,2,none⟩ (.slice (some ⟨W6.heap.size,0,none⟩) 1 1)) (w.heap.size+1) ⟨to,x.cost+c,[to]⟩ (.slice (some ⟨W6.heap.size,0,none⟩) 1 1);have B8:=(HBB.out.setCell (p:=⟨NB,2,none⟩) (by show w.heap.size<=NB;omega) (.slice (some ⟨W6.heap.size,0,none⟩) 1 1)).grown G9 (by rw [ez];omega) (fun k hk=>by simp at hk;omega)
   have ez2:(Zbd (W6.setCell ⟨NB,2,none⟩ (.slice (some ⟨W6.heap.size,0,none⟩) 1 1)) (w.heap.size+1) ⟨to,x.cost+c,[to]⟩ (.slice (some ⟨W6.heap.size,0,none⟩) 1 1)).heap.size=W6.heap.size:=by simp [Zbd]
   have FF:=hide ((Below.heap_alloc (Zbd (W6.setCell ⟨NB,2,none⟩ (.slice (some ⟨W6.heap.size,0,none⟩) 1 1)) (w.heap.size+1) ⟨to,x.cost+c,[to]⟩ (.slice (some ⟨W6.heap.size,0,none⟩) 1 1)) (.cells #[.int .i64 to] 3) (w.heap.size+1) (by rw [ez2];omega)).trans F1)
   have RW:((Zbd (W6.setCell ⟨NB,2,none⟩ (.slice (some ⟨W6.heap.size,0,none⟩) 1 1)) (w.heap.size+1) ⟨to,x.cost+c,[to]⟩ (.slice (some ⟨W6.heap.size,0,none⟩) 1 1)).alloc (.cells #[.int .i64 to] 3)).ownsRow w.heap.size 3 1 (.slice (some ⟨(Zbd (W6.setCell ⟨NB,2,none⟩ (.slice (some ⟨W6.heap.size,0,none⟩) 1 1)) (w.heap.size+1) ⟨to,x.cost+c,[to]⟩ (.slice (some ⟨W6.heap.size,0,none⟩) 1 1)).heap.size,0,none⟩) 1 1) [to].length (flat intE [to]):=World.ownsRow_lit _ #[.int .i64 to] 1 (by rw [ez2];omega) (by unfold maxLen;omega) (by simp)
   rw [ez2] at RW;have O9:=hide RW;have B9:=hide (B8.alloc (by rw [ez2];omega) (.cells #[.int .i64 to] 3))
   have HFIN:=hide (fun W (hW:W=(Zbd (W6.setCell ⟨NB,2,none⟩ (.slice (some ⟨W6.heap.size,0,none⟩) 1 1)) (w.heap.size+1) ⟨to,x.cost+c,[to]⟩ (.slice (some ⟨W6.heap.size,0,none⟩) 1 1)).alloc (.cells #[.int .i64 to] 3))=>show W.heap[w.heap.size+1]? = some (.cells (wayC ⟨to,x.cost+c,[to]⟩ (.slice (some ⟨W6.heap.size,0,none⟩) 1 1)) 104)/\W.ownsRow w.heap.size 3 1 (.slice (some ⟨W6.heap.size,0,none⟩) 1 1) [to].length (flat intE [to])/\Below w.heap.size w W by subst hW;exact⟨FF.out,O9.out,B9.out⟩)
   have QB:=(Below.heap_alloc (W6.setCell ⟨NB,2,none⟩ (.slice (some ⟨W6.heap.size,0,none⟩) 1 1)) (.cells #[.int .i64 to] 3) (w.heap.size+1) (by rw [ez];omega)).trans QA
   have fb0:=Zae QB 0;have fb1:=Zae QB 1;have fb2:=Zae QB 2;have l6:w.heap.size+1<W6.heap.size:=by omega
   clear G9 RW QA QB F1 B8 ez ez2 FF O9 B9 hl0 hx0 HZ0 HZ1 HFN HOO HBB hS6 HOH HD
   go_wp2_with fail
   (try simp only [Exit.inBlock,Exit.then])
   obtain⟨W7,hW7⟩:∃ W,W=(Zbd (W6.setCell ⟨NB,2,none⟩ (.slice (some ⟨W6.heap.size,0,none⟩) 1 1)) (w.heap.size+1) ⟨to,x.cost+c,[to]⟩ (.slice (some ⟨W6.heap.size,0,none⟩) 1 1)).alloc (.cells #[.int .i64 to] 3):=⟨_,rfl⟩;have R7:=HFIN.out W7 hW7;rw [<-hW7];refine bodyPost_ret (results_cell_row rfl _ _ (w.heap.size+1) 104 (wayC ⟨to,x.cost+c,[to]⟩ (.slice (some ⟨W6.heap.size,0,none⟩) 1 1)) (0,0) _ rfl R7.1 Tryz.underlying104 rfl (by kernel_rfl)) rfl ?_
   exact⟨_,rfl,R7.2.1,R7.2.2⟩
  ·have hDe:D=⟨to,x.cost+c,x.hops⟩:=by rw [HD.out,if_neg hx0]
   subst hDe;have hl0:x.hops.length≠0:=fun e=>hx0 (List.eq_nil_of_length_eq_zero e)
   have hlb:((x.hops.length:Int)==0)=false:=by
    have h1:¬(x.hops.length:Int)=0:=by omega
    simpa using h1
   have FF:=hide (Zc4 ⟨to,x.cost+c,x.hops⟩ (.slice na x.hops.length nc) HZ1.out);have G9:=Za0 W6 (w.heap.size+1) ⟨to,x.cost+c,x.hops⟩ (.slice na x.hops.length nc);have O9:=hide (Zah (b0:=w.heap.size) (HOO.out.kept G9 (by
    cases hv:(Value.slice na x.hops.length nc).ownBlock with
    | none=>exact .inl rfl
    | some g=>exact .inr (fun e=>by have:=(HOO.out.lt g hv).1;simp at e;omega))) (by omega))
   have B9:=hide (HBB.out.grown G9 HBB.out.size (fun k hk=>by simp at hk;omega))
   have hl1:¬(x.hops.length:Int)=0:=by omega
   clear G9 hl0 hx0 HZ0 HZ1 HFN HOO HBB hS6 HOH HD
   go_wp2_with fail
   (try simp only [Exit.inBlock,Exit.then])
   refine bodyPost_ret (results_cell_row rfl _ _ (w.heap.size+1) 104 (wayC ⟨to,x.cost+c,x.hops⟩ (.slice na x.hops.length nc)) (0,0) _ rfl FF.out Tryz.underlying104 rfl (by kernel_rfl)) rfl ?_
   exact⟨_,rfl,O9.out,B9.out⟩
 exact AllReadyH.nil
def Zgf (area owner:Int)(x:RecD):Bool:=x.area==area&&x.kind==1&&x.owner==owner
def plN (xs:List RecD)(area owner:Int):Option Nat:=xs.findIdx? (Zgf area owner)
def plV2:Option Nat->Value
 | some k=>.tuple #[.int .i64 (k:Int),.bool true]
 | none=>.tuple #[.int .i64 0,.bool false]
theorem ZnK {xs:List RecD}{area owner:Int}{x:RecD}{k:Nat}(hk:xs[k]? = some x)(hs:Zgf area owner x=true)(hall:∀ j,j<k->∀ y,xs[j]? = some y->Zgf area owner y=false):plN xs area owner=some k:=by
 obtain⟨h1,e1⟩:=List.getElem?_eq_some_iff.1 hk;unfold plN;rw [List.findIdx?_eq_some_iff_getElem];refine⟨h1,by rw [e1];exact hs,fun j hj=>?_⟩
 have:=hall j hj xs[j] (List.getElem?_eq_getElem (by omega))
 rw [this];simp
theorem Zo4 {xs:List RecD}{area owner:Int}(hall:∀ j,j<xs.length->∀ y,xs[j]? = some y->Zgf area owner y=false):plN xs area owner=none:=by
 unfold plN;rw [List.findIdx?_eq_none_iff];intro x hx;obtain⟨j,hj,e⟩:=List.mem_iff_getElem.1 hx;exact hall j hj x (by rw [List.getElem?_eq_getElem hj,e])
theorem Zoj {xs:List RecD}{k:Nat}{x:RecD}{f:RecD->Bool}(h:∀ j,j<k->∀ y,xs[j]? = some y->f y=false)(hk:xs[k]? = some x)(hx:f x=false):∀ j,j<k+1->∀ y,xs[j]? = some y->f y=false:=by
 intro j hj y hy;by_cases e:j=k
 ·subst e
  rw [hk] at hy;cases hy
  exact hx
 ·exact h j (by omega) y hy
theorem Zhn (v:Value)(ps:List RP)(hi:Nat)(area owner:Int)(w:World)(hv:RecsIn w hi v ps)(hhi:hi<=w.heap.size)(hn:tot ps<=1048576):
  Calls Tryz.prog 142 #[v,.int .i64 area,.int .i64 owner] w fun e w'=>e=.returned (plV2 (plN (fsts ps) area owner))/\Below w.heap.size w w':=by
 have hnl:=Zca ps;obtain⟨R,hR⟩:∃ R,R=plN (fsts ps) area owner:=⟨_,rfl⟩;rw [<-hR];have HR:=hide hR;clear hR;obtain⟨a1,c1,rfl⟩:=Zac hv.row;have HV:=hide hv;clear hv
 go_enter Tryz.func142,Tryz.ntmps142
 go_wp2
 go_loopw [11] (fun i wr=>∃ (k:Nat),k<=ps.length/\i=.int .i64 (k:Int)/\Hid (∀ j,j<k->∀ y,(fsts ps)[j]? = some y->Zgf area owner y=false)/\Below w.heap.size w wr) (fun i _=>ps.length-(intOf i).toNat)
 case atStart=>exact ⟨0,by omega,rfl,hide (by omega),Below.refl _ _⟩
 case round=>
  obtain⟨k,hk,rfl,HALL,hnx⟩:=hrel;by_cases hlt:k<ps.length
  ·obtain ⟨p,hp⟩:∃ p,ps[k]? = some p:=⟨ps[k],List.getElem?_eq_getElem hlt⟩
   have hat:=HV.out.at;obtain⟨b,off,cap',hve,hbb,c0,c1,c2,_⟩:=hat.cells k p hp;cases hve
   rw [<-hnx.cell (p:=⟨b,off+k*8,none⟩) (Nat.lt_of_lt_of_le hbb hhi)] at c0;rw [<-hnx.cell (p:=⟨b,off+k*8+1,none⟩) (Nat.lt_of_lt_of_le hbb hhi)] at c1;rw [<-hnx.cell (p:=⟨b,off+k*8+2,none⟩) (Nat.lt_of_lt_of_le hbb hhi)] at c2;have hki:(0:Int)<=(k:Int):=by omega
   have hkj:(k:Int)<(ps.length:Int):=by omega
   have HPP:=hide (Zbw hp);obtain⟨x0,hx0⟩:∃ x,x=p.1.area:=⟨_,rfl⟩;obtain⟨x1,hx1⟩:∃ x,x=p.1.kind:=⟨_,rfl⟩;obtain⟨x2,hx2⟩:∃ x,x=p.1.owner:=⟨_,rfl⟩;have HM:=hide (show Zgf area owner p.1=(x0==area&&x1==1&&x2==owner) by rw [hx0,hx1,hx2];rfl)
   rw [<-hx0] at c0;rw [<-hx1] at c1;rw [<-hx2] at c2;clear hp hat hx0 hx1 hx2;have NXT:=hide (fun (e:(x0==area&&x1==1&&x2==owner)=false)=>Zoj HALL.out HPP.out (HM.out.trans e))
   by_cases h0:x0=area
   ·by_cases h1:x1=1
    ·by_cases h2:x2=owner
     ·have HF:=hide (show R=some k by rw [HR.out];exact ZnK HPP.out (by rw [HM.out];simp [h0,h1,h2]) HALL.out)
      have hRR:=HF.out;subst hRR;subst h0 h1 h2;clear NXT HM
      go_wp2
      go_returns
      exact⟨rfl,hnx⟩
     ·have HN:=hide (NXT.out (by simp [h2]))
      have hb2:(x2==owner)=false:=by simpa using h2
      subst h0 h1;clear NXT HM
      go_wp2
      go_roundw
      case rel=>exact ⟨k+1,by omega,by go_num,HN,hnx⟩
      case measure=>simp [intOf];omega
    ·have HN:=hide (NXT.out (by simp [h1]))
     have hb1:(x1==1)=false:=by simpa using h1
     subst h0;clear NXT HM
     go_wp2
     go_roundw
     case rel=>exact ⟨k+1,by omega,by go_num,HN,hnx⟩
     case measure=>simp [intOf];omega
   ·have HN:=hide (NXT.out (by simp [h0]))
    have hb0:(x0==area)=false:=by simpa using h0
    clear NXT HM
    go_wp2
    go_roundw
    case rel=>exact ⟨k+1,by omega,by go_num,HN,hnx⟩
    case measure=>simp [intOf];omega
  ·have HF:=hide (show R=none by rw [HR.out];exact Zo4 (fun j hj=>HALL.out j (by simp [fsts] at hj;omega)))
   have hRR:=HF.out;subst hRR
   go_wp2
   go_returns
   exact⟨rfl,hnx⟩
def Zid (xs:List RecD)(area owner to:Int):Option Int:=match plN xs area owner with
 | some k=>match xs[k]? with
  | some x=>(x.near.find? (fun n=>n.to==to)).map (·.c)
  | none=>none
 | none=>none
def Zob:Option Int->Value
 | some c=>.tuple #[.int .i64 c,.bool true]
 | none=>.tuple #[.int .i64 0,.bool false]
theorem Zpt {xs:List RecD}{area owner:Int}{k:Nat}(h:plN xs area owner=some k):∃ x,xs[k]? = some x/\Zgf area owner x=true/\∀ j,j<k->∀ y,xs[j]? = some y->Zgf area owner y=false:=by
 unfold plN at h;obtain⟨h1,h2,h3⟩:=List.findIdx?_eq_some_iff_getElem.1 h;refine⟨xs[k],List.getElem?_eq_getElem h1,h2,fun j hj y hy=>?_⟩
 have h4:=h3 j hj;rw [List.getElem?_eq_getElem (by omega)] at hy
 cases hy
 simpa using h4
theorem ZoD {ns:List Nr}{k:Nat}{n:Nr}{b:Int}(h:ns[k]? = some n)(hno:∀ q∈ns.take k,q.to≠b)(hb:n.to=b):ns.find? (fun x=>x.to==b)=some n:=by
 obtain⟨hk,e1⟩:=List.getElem?_eq_some_iff.1 h;rw [List.find?_eq_some_iff_append];refine⟨by simpa using hb,ns.take k,ns.drop (k+1),?_,?_⟩
 ·rw [<-e1, <-List.drop_eq_getElem_cons hk,List.take_append_drop]
 ·intro x hx
  simpa using hno x hx
theorem Zld (v:Value)(ps:List RP)(hi:Nat)(area owner to:Int)(w:World)(hv:RecsIn w hi v ps)(hhi:hi<=w.heap.size)(hn:tot ps<=1048576):
  Calls Tryz.prog 192 #[v,.int .i64 area,.int .i64 owner,.int .i64 to] w fun e w'=>e=.returned (Zob (Zid (fsts ps) area owner to))/\Below w.heap.size w w':=by
 have hnl:=Zca ps;obtain⟨R,hR⟩:∃ R,R=Zid (fsts ps) area owner to:=⟨_,rfl⟩;rw [<-hR];have HP:=hide (Zhn v ps hi area owner w hv hhi hn);obtain⟨a1,c1,rfl⟩:=Zac hv.row;unfold Zid at hR;cases hpl:plN (fsts ps) area owner with
 | none=>
  rw [hpl] at HP hR;have hRR:R=none:=hR;subst hRR;unfold plV2 at HP;unfold Zob;clear hR hv
  go_enter Tryz.func192,Tryz.ntmps192
  go_wp2_with fail
  refine HP.out.mono ?_
  rintro e w1 ⟨rfl,b1⟩
  go_wp2
  go_returns
  exact⟨rfl,b1⟩
 | some k=>
  rw [hpl] at HP hR;obtain⟨x,hx,_,_⟩:=Zpt hpl;simp only [hx] at hR
  obtain⟨p,hp,rfl⟩:=Zg7 hx;have hR2:R=(p.1.near.find? (fun n=>n.to==to)).map (·.c):=hR
  have HR:=hide hR2;clear hR hR2;unfold plV2 at HP;have hlt:k<ps.length:=(List.getElem?_eq_some_iff.1 hp).1;obtain⟨b,off,cap',hve,hbb,_,_,_,_,_,c5,_,_,hnr⟩:=hv.at.cells k p hp;cases hve
  obtain⟨pa,pc,hpn⟩:=ZaB.shape hnr;rw [hpn] at c5 hnr;have hnl2:p.1.near.length<=1048576:=by have:=Zez (List.mem_of_getElem? hp);omega
  have HNR:=hide hnr;have hki:(0:Int)<=(k:Int):=by omega
  have hkj:(k:Int)<(ps.length:Int):=by omega
  obtain⟨ns,hns⟩:∃ ns,ns=p.1.near:=⟨_,rfl⟩;rw [<-hns] at HR c5 HNR hnl2;clear hx hp hv hnr hpn hns hpl
  go_enter Tryz.func192,Tryz.ntmps192
  go_wp2_with fail
  refine HP.out.mono ?_
  rintro e w1 ⟨rfl,b1⟩;rw [<-b1.cell (p:=⟨b,off+k*8+5,none⟩) (Nat.lt_of_lt_of_le hbb hhi)] at c5;have N1:=hide (ZaL.later HNR.out b1 hhi)
  go_wp2
  go_loopw [29] (fun i wr=>∃ (j:Nat),j<=ns.length/\i=.int .i64 (j:Int)/\Hid (∀ q∈ns.take j,q.to≠to)/\Below w1.heap.size w1 wr) (fun i _=>ns.length-(intOf i).toNat)
  case atStart=>exact ⟨0,by omega,rfl,hide (by simp),Below.refl _ _⟩
  case round=>
   obtain⟨j,hj,rfl,HNO,hnx⟩:=hrel;have hs1:=b1.size;have B:Below w.heap.size w wr:=b1.trans (hnx.mono hs1);have hsB:=B.size;have hsx:=hnx.size;by_cases hjl:j<ns.length
   ·obtain ⟨n,hnj⟩:∃ n,ns[j]? = some n:=⟨ns[j],List.getElem?_eq_getElem hjl⟩
    obtain⟨b2,off2,cp,hve,hbb2,d0,d1⟩:=ZaB.cells (ZaL.later N1.out hnx (by omega)) j n hnj
    cases hve
    have hji:(0:Int)<=(j:Int):=by omega
    have hjj:(j:Int)<(ns.length:Int):=by omega
    by_cases hto:n.to=to
    ·have HF:=hide (show R=some n.c by rw [HR.out,ZoD hnj HNO.out hto];rfl)
     have hRR:=HF.out;subst hRR;subst hto;clear hnj
     go_wp2
     go_returns
     exact⟨rfl,B.alloc (by omega) _⟩
    ·have HN:=hide (Zjs hnj HNO.out hto)
     have hb0:(n.to==to)=false:=by simpa using hto
     clear hnj
     go_wp2
     go_roundw
     case rel=>exact ⟨j+1,by omega,by go_num,HN,hnx.alloc (by omega) _⟩
     case measure=>simp [intOf];omega
   ·have HF:=hide (show R=none by
     rw [HR.out];have h:=HNO.out;rw [List.take_of_length_le (by omega)] at h
     rw [List.find?_eq_none.2 (fun x hx=>by simpa using h x hx)]
     rfl)
    have hRR:=HF.out;subst hRR
    go_wp2
    go_returns
    exact⟨rfl,B⟩
def Zgb (xs:List RecD)(area a b:Int):Int:=match Zid xs area b a with
 | some _=>match Zid xs area a b with
  | some c=>c
  | none=>0
 | none=>0
theorem Zj5 (v:Value)(ps:List RP)(hi:Nat)(area a b:Int)(w:World)(hv:RecsIn w hi v ps)(hhi:hi<=w.heap.size)(hn:tot ps<=1048576):
  Calls Tryz.prog 176 #[v,.int .i64 area,.int .i64 a,.int .i64 b] w fun e w'=>e=.returned (.int .i64 (Zgb (fsts ps) area a b))/\Below w.heap.size w w':=by
 have H1:=hide (Zld v ps hi area b a w hv hhi hn);have H2:=hide (fun W (hb:Below w.heap.size w W)=>Zld v ps hi area a b W (hv.below hb hhi) (Nat.le_trans hhi hb.size) hn)
 clear hv;unfold Zgb;cases e1:Zid (fsts ps) area b a with
 | none=>
  rw [e1] at H1;unfold Zob at H1
  go_enter Tryz.func176,Tryz.ntmps176
  go_wp2_with fail
  refine H1.out.mono ?_
  rintro e w1 ⟨rfl,b1⟩
  go_wp2
  go_ret
  exact⟨rfl,b1⟩
 | some c=>
  rw [e1] at H1;cases e2:Zid (fsts ps) area a b with
  | none=>
   rw [e2] at H2;unfold Zob at H1 H2
   go_enter Tryz.func176,Tryz.ntmps176
   go_wp2_with fail
   refine H1.out.mono ?_
   rintro e w1 ⟨rfl,b1⟩
   go_wp2_with fail
   refine (H2.out _ b1).mono ?_
   rintro e w2 ⟨rfl,b2⟩;have B2:Below w.heap.size w w2:=b1.trans (b2.mono b1.size)
   go_wp2
   go_ret
   exact⟨rfl,B2⟩
  | some c2=>
   rw [e2] at H2;unfold Zob at H1 H2
   go_enter Tryz.func176,Tryz.ntmps176
   go_wp2_with fail
   refine H1.out.mono ?_
   rintro e w1 ⟨rfl,b1⟩
   go_wp2_with fail
   refine (H2.out _ b1).mono ?_
   rintro e w2 ⟨rfl,b2⟩;have B2:Below w.heap.size w w2:=b1.trans (b2.mono b1.size)
   go_wp2
   go_ret
   exact⟨rfl,B2⟩
theorem Zl9 {x:RecD}(h:ZbH x=true)(hk:x.kind=1):x.key=0:=by
 unfold ZbH at h;simp only [Bool.and_eq_true] at h
 have h2:=h.2;rw [if_pos hk] at h2;simp only [Bool.and_eq_true,beq_iff_eq] at h2
 exact h2.1.1.1.2
theorem Zjq {xs:List RecD}(h:ZaJ xs=true){x:RecD}(hx:x∈xs):ZbH x=true:=by
 unfold ZaJ at h;simp only [Bool.and_eq_true] at h
 exact Zc6 h.1.2 hx
theorem Zgg {xs:List RecD}(h:ZaJ xs=true){area owner:Int}{x:RecD}(hx:x∈xs):Zgf area owner x=Zbv x (ZfF area owner):=by
 have hok:=Zjq h hx;unfold Zgf Zbv ZfF;by_cases hk:x.kind=1
 ·have:=Zl9 hok hk
  simp [this]
 ·have hb:(x.kind==1)=false:=by simpa using hk
  simp [hb]
theorem Zjf {xs:List RecD}(h:ZaJ xs=true)(area owner:Int):plN xs area owner=xs.findIdx? (fun x=>Zbv x (ZfF area owner)):=by
 unfold plN;cases e:xs.findIdx? (Zgf area owner) with
 | none=>
  rw [List.findIdx?_eq_none_iff] at e;rw [Eq.comm,List.findIdx?_eq_none_iff];intro x hx;rw [<-Zgg h hx];exact e x hx
 | some k=>
  obtain⟨h1,h2,h3⟩:=List.findIdx?_eq_some_iff_getElem.1 e;rw [Eq.comm,List.findIdx?_eq_some_iff_getElem];refine⟨h1,?_,fun j hj=>?_⟩
  ·rw [<-Zgg h (List.getElem_mem _)];exact h2
  ·rw [<-Zgg h (List.getElem_mem _)];exact h3 j hj
theorem Zl0 {xs:List RecD}(h:ZaJ xs=true)(area owner:Int):Zh1 xs area owner=(plN xs area owner).isSome:=by
 unfold Zh1 ZjW atZ;rw [<-Zjf h];cases plN xs area owner with
 | none=>rfl
 | some k=>
  show (!decide ((k:Int)<0))=true
  simp
theorem Zhu {xs:List RecD}(h:ZaJ xs=true)(area owner to:Int):Zid xs area owner to=((Zcv xs area owner).near.find? (fun n=>n.to==to)).map (·.c):=by
 unfold Zid Zcv ZiJ atZ;rw [<-Zjf h];cases e:plN xs area owner with
 | none=>rfl
 | some k=>
  obtain⟨x,hx,_,_⟩:=Zpt e
  show (match xs[k]? with
   | some x=>(x.near.find? (fun (n:Nr)=>n.to==to)).map (fun (n:Nr)=>n.c)
   | none=>none)=_
  rw [hx]
  show _=(((if ((k:Int)<0) then Zc2 else xs.getD ((k:Int)).toNat Zc2).near.find? (fun (n:Nr)=>n.to==to)).map (fun (n:Nr)=>n.c))
  rw [if_neg (by omega)]
  simp [hx]
def AscN (ns:List Nr):Prop:=∀ (i j:Nat) (a b:Nr),i<j->ns[i]? = some a->ns[j]? = some b->a.to<b.to
theorem ZlZ {o:Int}{ns:List Nr}(h:Zbp o ns=true):AscN ns:=by
 unfold Zbp at h;simp only [Bool.and_eq_true] at h
 have hasc:=h.2;unfold ascB at hasc;rw [List.all_eq_true] at hasc;have step:∀ (j:Nat) (a b:Nr),ns[j]? = some a->ns[j+1]? = some b->a.to<b.to:=by
  intro j a b ha hb;have hj:j+1<ns.length:=(List.getElem?_eq_some_iff.1 hb).1;have:=hasc (j+1) (by simpa using hj)
  unfold ZbP at this;simp only [ha,hb] at this
  unfold ordN at this;simp at this
  omega
 intro i j a b hij
 induction j generalizing b with
 | zero=>omega
 | succ j ih=>
  intro ha hb;have hj:j+1<ns.length:=(List.getElem?_eq_some_iff.1 hb).1;obtain⟨m,hm⟩:∃ m,ns[j]? = some m:=⟨ns[j]'(by omega),List.getElem?_eq_getElem (by omega)⟩
  have s:=step j m b hm hb;by_cases e:i=j
  ·subst e
   rw [ha] at hm;cases hm
   exact s
  ·have:=ih m (by omega) ha hm;omega
theorem ZlQ {ns:List Nr}{bk:Int->Int}{v:Nat}(hv:1<=v/\v<=6)(hasc:AscN ns):∀ k,k<=ns.length->ZdG ns bk v k=(if 0<bk (v:Int) then (((ns.take k).find? (fun n=>n.to==(v:Int))).map (·.c)).getD 0 else 0):=by
 intro k
 induction k with
 | zero=>intro _;simp [ZdG]
 | succ k ih=>
  intro hk;have hlt:k<ns.length:=by omega
  rw [ZdY bk v (List.getElem?_eq_getElem hlt),ih (by omega),List.take_succ_eq_append_getElem hlt,List.find?_append]
  by_cases e:ns[k].to=(v:Int)
  ·by_cases hb:0<bk (v:Int)
   ·rw [if_pos ⟨e,by rw [e];exact ZdE.2 (by omega),by rw [e];exact hb⟩,if_pos hb]
    have hno:(ns.take k).find? (fun n=>n.to==(v:Int))=none:=by
     rw [List.find?_eq_none];intro x hx;obtain⟨i,hi,e2⟩:=List.mem_iff_getElem.1 hx;rw [List.length_take] at hi;rw [List.getElem_take] at e2;have:=hasc i k x ns[k] (by omega) (by rw [List.getElem?_eq_getElem (by omega),e2]) (List.getElem?_eq_getElem hlt)
     simp
     omega
    rw [hno];simp [e]
   ·rw [if_neg (fun hc=>by rw [e] at hc;exact hb hc.2.2),if_neg hb,if_neg hb]
  ·rw [if_neg (fun hc=>e hc.1)]
   have e2:(ns[k].to==(v:Int))=false:=by simpa using e
   simp [e2]
theorem Zi0 {xs:List RecD}(h:ZaJ xs=true)(area:Int){u v:Nat}(hu:1<=u/\u<=6)(hv:1<=v/\v<=6):Zgb xs area (u:Int) (v:Int)=ZeK xs area u v:=by
 unfold Zgb ZeK;rw [if_pos ⟨hu,hv⟩,Zhu h,Zhu h];unfold Zno;have hasc:AscN (Zcv xs area (u:Int)).near:=by
  unfold Zcv
  rcases ZiK (xs:=xs) (r:=ZfF area (u:Int)) with hm | he
  ·rcases Zgq (Zjq h hm) with e | ⟨_,e⟩
   ·rw [e];intro i j a b _ ha _;simp at ha
   ·exact ZlZ e
  ·rw [he];intro i j a b _ ha _;simp [Zc2] at ha
 rw [ZlQ hv hasc _ (Nat.le_refl _),List.take_length];have hback:∀ c,((Zcv xs area (v:Int)).near.find? (fun n=>n.to==(u:Int))).map (·.c)=some c->0<c:=by
  intro c hc;obtain⟨n,hn,rfl⟩:=Option.map_eq_some_iff.1 hc;have:=Zgh (area:=area) (node:=(v:Int)) h n (List.mem_of_find?_eq_some hn);omega
 have htell:Ze0 xs area (v:Int) (u:Int)=(((Zcv xs area (v:Int)).near.find? (fun n=>n.to==(u:Int))).map (·.c)).getD 0:=by
  unfold Ze0 ZgD;cases (Zcv xs area (v:Int)).near.find? (fun n=>n.to==(u:Int)) <;> rfl
 cases e:((Zcv xs area (v:Int)).near.find? (fun n=>n.to==(u:Int))).map (·.c) with
 | none=>
  rw [if_neg (by rw [htell,e];simp)]
 | some c=>
  rw [if_pos (by rw [htell,e];exact hback c e)]
  cases ((Zcv xs area (u:Int)).near.find? (fun n=>n.to==(v:Int))) <;> rfl
end Go.Proofs.YtnndlmodjkplnaaGreatDoor
namespace Go.Proofs.YtnndlmodjkplnaaGreatDoor
open Go.RowKit

set_option linter.unusedSimpArgs false

theorem FS.popped {W W':World}{lo z n:Nat}{u u':Value}{q q':Nat->Nat}{bp:Nat->Option Nat}{wd:Nat->WayD}{wv:Nat->Value}(s:FS W lo z u (n+1) q bp wd wv)(F:FK W W' lo z)(hb':HB W' lo z (finC bp u') u' n q' wd wv)(hi:ZcI (fun k=>(wd k).cost) q' n):FS W' lo z u' n q' bp wd wv:=by
 refine⟨s.lz,hb',hi,fun v k e=>⟨?_,(s.way v k e).2⟩,fun v k e=>?_,s.short,s.apart,s.to,s.b0⟩
 ·have hj:=(s.way v k e).1
  exact (F.typed _ _ _ _ hj (by decide) (fun e=>by rw [e,s.hb.box] at hj;simp at hj)).trans hj
 ·have ho:=s.row v k e
  refine Zal ho (fun j hj=>?_)
  rcases ho.2 with ⟨e1,_⟩ | ⟨g2,cap,cur,e1,_,hh,_⟩
  ·rw [e1] at hj;cases hj
  ·rw [e1] at hj
   simp [Value.ownBlock] at hj
   subst hj;exact F.typed _ _ _ _ hh (by decide) (fun e=>by rw [e,s.hb.box] at hh;simp at hh)

theorem ZoR {L:Nat->Nat->Int}{src:Nat}{F:Nat->Bool}{c:Nat->Int}{h:Nat->List Int}(I:Inv L src F c h){u t:Nat}(hu:0<=c u){x:WayD}(hx:x.hops=h u)(co:Int):onwD x (t:Int) co=⟨(t:Int),x.cost+co,wayL src h u t⟩:=by
 unfold onwD wayL;by_cases e:u=src
 ·have:x.hops=[]:=by rw [hx,e];exact I.start0
  rw [if_pos this,if_pos e]
 ·have:x.hops≠[]:=by rw [hx];exact I.hops_ne _ u e hu (Nat.le_refl _)
  rw [if_neg this,if_neg e,hx]

theorem Zik {L:Nat->Nat->Int}{src:Nat}{F:Nat->Bool}{c:Nat->Int}{h:Nat->List Int}(I:Inv L src F c h){u t:Nat}(ht:1<=t/\t<=6):(wayL src h u t).Pairwise (· < ·)/\∀ x,x∈wayL src h u t->1<=x/\x<=6:=by
 unfold wayL;by_cases e:u=src
 ·rw [if_pos e]
  refine⟨by simp,fun x hx=>?_⟩
  simp at hx
  omega
 ·rw [if_neg e]
  exact⟨I.asc u,I.rng u⟩

theorem ZpY {L:Nat->Nat->Int}{src:Nat}{F:Nat->Bool}{c:Nat->Int}{h:Nat->List Int}(I:Inv L src F c h){u t:Nat}(ht:1<=t/\t<=6):(wayL src h u t).length<=6:=by
 obtain⟨h1,h2⟩:=Zik I (u:=u) ht;rw [ZeC (a:=[]) (b:=wayL src h u t) h1 (fun x=>by simp) h2]
 exact Zco _ _

section
variable {L:Nat->Nat->Int} {src:Nat} {F:Nat->Bool} {c:Nat->Int} {h:Nat->List Int} {n u t:Nat} {q:Nat->Nat} {bp:Nat->Option Nat} {wd:Nat->WayD}

theorem Znl (I:Inv L src F c h)(hl:0<L u t)(ht:1<=t/\t<=6)(g:GI (fun x=>F x||x==u) (mixC L c u t) (mixH L src c h u t) n q bp wd){kn:Nat}(hb:bp t=some kn)(hnc:¬c u+L u t<(wd kn).cost):
  (togI (wd kn) ⟨(t:Int),c u+L u t,wayL src h u t⟩).hops=ZbD L src c h u t/\Zaw L c u t=c t/\(togI (wd kn) ⟨(t:Int),c u+L u t,wayL src h u t⟩).cost=(wd kn).cost/\(togI (wd kn) ⟨(t:Int),c u+L u t,wayL src h u t⟩).to=(wd kn).to:=by
 have hc:(wd kn).cost=c t:=by have:=g.cc t;rw [Zcl hb,Zdb] at this;exact this
 have hh:(wd kn).hops=h t:=by have:=g.hh t;rw [ZdX hb,ZeN] at this;exact this
 have h0:=g.nn t kn hb;unfold togI Zbg;by_cases e:(wd kn).cost<c u+L u t
 ·have hr:=Zdx (L:=L) (src:=src) (c:=c) (h:=h) (u:=u) (v:=t) (by omega) (by omega)
  rw [if_pos (by simpa using e)]
  exact⟨by rw [hr.1];exact hh,hr.2,rfl,rfl⟩
 ·have hr:=Zet (L:=L) (src:=src) (c:=c) (h:=h) (u:=u) (v:=t) hl (by omega) (by omega)
  rw [if_neg (by simpa using e),if_neg (by simpa using hnc)]
  refine⟨?_,hr.2,rfl,rfl⟩
  show Zch (wd kn).hops (wayL src h u t)=_
  rw [hr.1,hh];refine ZeC (Zf6 _ _) (fun x=>ZeI) (fun x hx=>?_)
  rcases ZeI.1 hx with h1 | h1
  ·exact I.rng t x h1
  ·exact (Zik I ht).2 x h1

theorem ZnS (I:Inv L src F c h)(hL:Links L 1000)(hu:0<=c u):(ZbD L src c h u t).length<=6:=by
 have r:=Zev I hL hu t;rw [ZeC (a:=[]) (b:=ZbD L src c h u t) r.asc (fun x=>by simp) (fun x hx=>by
  rcases (r.mem x).1 hx with ⟨h1,_⟩ | ⟨h1,_,h3⟩
  ·exact I.rng t x h1
  ·have hn:=(hL.node u t h1).2
   unfold ZcJ at hn;exact (Zik I (src:=src) (u:=u) hn).2 x (Zij.2 h3))]
 exact Zco _ _

theorem Zma (I:Inv L src F c h)(hl:0<L u t)(ht:1<=t/\t<=6)(g:GI (fun x=>F x||x==u) (mixC L c u t) (mixH L src c h u t) n q bp wd){kn:Nat}(hb:bp t=some kn)(hnc:¬c u+L u t<(wd kn).cost):
  GI (fun x=>F x||x==u) (mixC L c u (t+1)) (mixH L src c h u (t+1)) n q bp (upd wd kn (togI (wd kn) ⟨(t:Int),c u+L u t,wayL src h u t⟩)):=by
 obtain⟨j1,j2,j3,j4⟩:=Znl I hl ht g hb hnc;have:=g.join hb j3 j4;rw [j1] at this;rw [ZcN j2,Zb9];exact this

theorem Zmb (I:Inv L src F c h)(hF:F u=false)(hu:0<=c u)(hl:0<L u t)(ht:1<=t/\t<=6)(g:GI (fun x=>F x||x==u) (mixC L c u t) (mixH L src c h u t) n q bp wd){k:Nat}{q':Nat->Nat}
  (hcase:bp t=none\/∃ kn,bp t=some kn/\c u+L u t<(wd kn).cost) (hk1:∀ i,i<n->q i≠k) (hk2:∀ v,bp v≠some k) (hs:Shuf (fun y=>if y=n then k else q y) q' (n+1)):
  GI (fun x=>F x||x==u) (mixC L c u (t+1)) (mixH L src c h u (t+1)) (n+1) q' (upd bp t (some k)) (upd wd k ⟨(t:Int),c u+L u t,wayL src h u t⟩):=by
 have hc:c t<0\/c u+L u t<c t:=by
  have h1:=g.cc t;rw [Zdb] at h1
  rcases hcase with e | ⟨kn,e,h2⟩
  ·rw [ZfJ e] at h1;omega
  ·rw [Zcl e] at h1;omega
 have hFt:(F t||t==u)=false:=by
  cases e:F t with
  | true=>
   have h1:=I.mono t u e hF hu;have h2:=(I.fnode t e).2;omega
  | false=>
   by_cases e2:t=u
   ·subst e2;omega
   ·simp [e2]
 have hr:=ZcQ (L:=L) (src:=src) (c:=c) (h:=h) (u:=u) (v:=t) hl hc;have hw:=Zik I (u:=u) ht;have hway:wayL src h u t=ZbD L src c h u t:=by
  rw [hr.1];exact ZeC hw.1 (fun x=>by simp) hw.2
 have:=g.push (t:=t) (k:=k) (x:=⟨(t:Int),c u+L u t,wayL src h u t⟩) hFt rfl (by rw [Zdb];exact hc) hk1 hk2 hs (by show 0<=c u+L u t;omega)
 rw [Zdc,Zb9,hr.2, <-hway];exact this

theorem Zmc (hl:¬0<L u t)(g:GI (fun x=>F x||x==u) (mixC L c u t) (mixH L src c h u t) n q bp wd):GI (fun x=>F x||x==u) (mixC L c u (t+1)) (mixH L src c h u (t+1)) n q bp wd:=by
 have hr:=Zeu (src:=src) (c:=c) (h:=h) hl;rw [ZcN hr.2,ZeM hr.1];exact g
end

def GO (W:World)(lo z:Nat)(L:Nat->Nat->Int)(src m:Nat):Prop:=
 ∃ u n q bp wd wv F c h,FS W lo z u n q bp wd wv/\GI F c h n q bp wd/\Inv L src F c h/\(∀ v,c v<=1000*(Zb8 F:Int))/\m=7*(6-Zb8 F)+n

def GEnd (W:World)(lo z:Nat)(L:Nat->Nat->Int)(src:Nat):Prop:=
 ∃ u q bp wd wv c h,FS W lo z u 0 q bp wd wv/\(∀ v,cOf bp wd v=c v)/\(∀ v,hOf bp wd v=h v)/\(∀ v k,bp v=some k->0<=(wd k).cost)/\Fix L src c h

theorem GI.end {L:Nat->Nat->Int}{src:Nat}{F:Nat->Bool}{c:Nat->Int}{h:Nat->List Int}{q:Nat->Nat}{bp:Nat->Option Nat}{wd:Nat->WayD}(g:GI F c h 0 q bp wd)(I:Inv L src F c h):Fix L src c h:=by
 refine⟨F,I,fun v hv=>?_⟩
 cases e:F v with
 | true=>rfl
 | false=>
  have h1:=g.cc v;cases e2:bp v with
  | none=>rw [ZfJ e2] at h1;omega
  | some k=>
   obtain⟨i,hi,_⟩:=g.live v k e2 e;omega

theorem GI.stale {F:Nat->Bool}{c:Nat->Int}{h:Nat->List Int}{n:Nat}{q q':Nat->Nat}{bp:Nat->Option Nat}{wd:Nat->WayD}(g:GI F c h (n+1) q bp wd)(hs:Shuf (Zcc q 0 n) q' n){v kb:Nat}(hto:(wd (q 0)).to=(v:Int))(hb:bp v=some kb)(hlt:(wd kb).cost<(wd (q 0)).cost):GI F c h n q' bp wd:=by
 refine g.pop hs (fun _ e=>e) (fun v' k e hF e2=>?_) (fun v' e1 e2=>by rw [e1] at e2;cases e2)
 subst e2;have h1:=g.to v' _ e;have:v'=v:=by omega
 subst this;rw [hb] at e;cases e
 omega

theorem GI.fresh {F:Nat->Bool}{c:Nat->Int}{h:Nat->List Int}{n:Nat}{q q':Nat->Nat}{bp:Nat->Option Nat}{wd:Nat->WayD}(g:GI F c h (n+1) q bp wd)(hs:Shuf (Zcc q 0 n) q' n)(hh:ZcI (fun k=>(wd k).cost) q (n+1)){v kb:Nat}(hto:(wd (q 0)).to=(v:Int))(hb:bp v=some kb)(hlt:¬(wd kb).cost<(wd (q 0)).cost):
  GI (fun x=>F x||x==v) c h n q' bp wd/\q 0=kb/\F v=false/\0<=c v/\(wd (q 0)).cost=c v/\(wd (q 0)).hops=h v/\∀ v',F v'=false->0<=c v'->c v<=c v':=by
 obtain⟨v2,kb2,e1,e2,e3⟩:=g.ent 0 (by omega)
 have hv:v2=v:=by omega
 subst hv;rw [hb] at e2;cases e2
 rcases e3 with ⟨e4,e5⟩ | e4
 ·have hcv:(wd (q 0)).cost=c v2:=by have:=g.cc v2;rw [Zcl hb] at this;rw [e4];exact this
  have hhv:(wd (q 0)).hops=h v2:=by have:=g.hh v2;rw [ZdX hb] at this;rw [e4];exact this
  have h0:=g.nn v2 kb hb;refine⟨g.pop hs (fun v' e=>?_) (fun v' k e hF e6=>?_) (fun v' e6 e7=>?_),e4,e5,by rw [<-hcv,e4];exact h0,hcv,hhv,fun v' hF hc=>?_⟩
  ·cases e6:F v' with
   | false=>rfl
   | true=>rw [e6] at e;simp at e
  ·subst e6
   have h1:=g.to v' _ e;have h2:v'=v2:=by omega
   subst h2;simp at hF
  ·rw [e6] at e7
   have h1:v'=v2:=by simpa using e7
   subst h1;rw [hb,e4]
  ·have h1:=g.cc v'
   cases e6:bp v' with
   | none=>rw [ZfJ e6] at h1;omega
   | some k'=>
    rw [Zcl e6] at h1;obtain⟨i,hi,e7⟩:=g.live v' k' e6 hF;have h2:=ZiS hh i i (Nat.le_refl _) hi;have h3:(wd (q 0)).cost<=(wd (q i)).cost:=h2;rw [e7] at h3;omega
 ·exact absurd e4 hlt
end Go.Proofs.YtnndlmodjkplnaaGreatDoor
