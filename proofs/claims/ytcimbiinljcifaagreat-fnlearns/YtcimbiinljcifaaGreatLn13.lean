/-
  CopyW OwnNet OwnSelf
-/
import Derived.Test.YtcimbiinljcifaaGreatLn7
import Derived.Test.YtcimbiinljcifaaGreatLn8
import Derived.Test.YtcimbiinljcifaaGreatLn12
import Derived.Deep.Cut
namespace Go.Proofs.YtcimbiinljcifaaGreat
open Go.RowKit
set_option linter.unusedSimpArgs false
set_option linter.unusedVariables false
set_option maxRecDepth 100000
set_option maxHeartbeats 8000000
theorem Zc0 (z:Int):∀ u∈intE z,u.oneCell'=true:=by
 intro u hu;simp [intE] at hu
 subst hu
 rfl
abbrev ZbT (W:World) (g:Nat) (x:WayD) (v:Value):World:=((W.setCell ⟨g,0,none⟩ (.int .i64 x.to)).setCell ⟨g,1,none⟩ (.int .i64 x.cost)).setCell ⟨g,2,none⟩ v
theorem Zh0 {W:World}{B0:Nat}{c0 c1 c2:Value}(x:WayD)(v:Value)(hr:W.heap[B0]? = some (.cells #[c0,c1,c2] 183)):
  (ZbT W B0 x v).heap[B0]? = some (.cells (wayC x v) 183):=by
 have k1:=heap_setCell_same _ _ 0 _ _ (.int .i64 x.to) hr;have k2:=heap_setCell_same _ _ 1 _ _ (.int .i64 x.cost) k1;have k3:=heap_setCell_same _ _ 2 _ _ v k2;simp only [List.setIfInBounds_toArray,List.set_cons_zero,List.set_cons_succ] at k3
 unfold ZbT wayC;exact k3
theorem ZbH (W:World)(g:Nat)(x:WayD)(v:Value):W.grownBy (ZbT W g x v) (some g):=
 Zaj (Zaj (Zag W g _ _) (Zag _ g _ _)) (Zag _ g _ _)
theorem ZdZ (l:List Int):(flat intE l).length=l.length*1:=Zbt ZdY l
theorem ZcC (W:World)(g base:Nat)(hg:g=W.heap.size)(hb:base<=W.heap.size):(W.alloc (.cells #[] 3)).ownsRow base 3 1 (.slice (some ⟨g,0,none⟩) 0 0) 0 (flat intE []):=by
 subst hg;exact World.ownsRow_lit W #[] 0 hb (by unfold maxLen;omega) (by simp)
theorem Ze3 (x:WayD)(v:Value)(base:Nat)(w:World)(ho:w.ownsRow base 3 1 v x.hops.length (flat intE x.hops))(hn:x.hops.length<=1048576):
  Calls Tryz.prog 150 #[.agg (wayC x v)] w fun e w'=>∃ v',e=.returned (.agg (wayC x v'))/\w'.ownsRow w.heap.size 3 1 v' x.hops.length (flat intE x.hops)/\Below w.heap.size w w':=by
 obtain⟨va,vc,rfl⟩:=Zac ho;have OW:=hide ho;clear ho
 go_enter Tryz.func150,Tryz.ntmps150
 unfold wayC
 go_wp2_with (first
  | (at_builtin;refine ZbG ZdZ (by omega) Zc0 (by omega) _ rfl _ _ 28 rfl (w.heap.size+2) 3 Tryz.underlying28 (.int .i64 0) rfl Tryz.info3 _ [] rfl ?own0 base _ x.hops rfl (((OW.out.alloc _).alloc _).alloc _) (by simp;omega) (by simp) ?_))
 case own0=>
  exact ZcC _ _ _ (by simp) (by simp)
 intro v' w4 hown' hgrow;obtain⟨na,nc,rfl⟩:=Zac hown';simp only [Value.ownBlock] at hgrow
 have hb4:Below w.heap.size w w4:=((((Below.refl w.heap.size w).alloc (by simp) _).alloc (by simp) _).alloc (by simp;omega) _).grown hgrow (by simp;omega) (fun k hk=>by simp at hk;omega)
 have q0:w4.heap[w.heap.size]? = some (.cells #[.int .i64 x.to,.int .i64 x.cost,.slice va x.hops.length vc] 183):=by
  rw [hgrow.block w.heap.size (by simp;omega) (by simp;omega),Below.heap_alloc _ _ _ (by simp;omega),Below.heap_alloc _ _ _ (by simp),heap_alloc_new]
 have q1:w4.heap[w.heap.size+1]? = some (.cells #[.int .i64 0,.int .i64 0,.slice none 0 0] 183):=by
  rw [hgrow.block (w.heap.size+1) (by simp) (by simp),Below.heap_alloc _ _ _ (by simp)]
  have e:=heap_alloc_new (w.alloc (.cells #[.int .i64 x.to,.int .i64 x.cost,.slice va x.hops.length vc] 183)) (.cells #[.int .i64 0,.int .i64 0,.slice none 0 0] 183);rw [show (w.alloc (.cells #[.int .i64 x.to,.int .i64 x.cost,.slice va x.hops.length vc] 183)).heap.size=w.heap.size+1 by simp] at e
  exact e
 have r2:=Zaa q0 2;have f0:=Zae q0;simp at r2
 have q2:=heap_setCell_same w4 w.heap.size 2 _ _ (.slice na x.hops.length nc) q0;simp only [List.setIfInBounds_toArray,List.set_cons_zero,List.set_cons_succ] at q2
 have q3:(w4.setCell ⟨w.heap.size,2,none⟩ (.slice na x.hops.length nc)).heap[w.heap.size+1]? = some (.cells #[.int .i64 0,.int .i64 0,.slice none 0 0] 183):=by
  rw [heap_setCell_other w4 ⟨w.heap.size,2,none⟩ _ _ (by show w.heap.size+1≠w.heap.size;omega)];exact q1
 have y0:=Zaa q2 0;have y1:=Zaa q2 1;have y2:=Zaa q2 2;simp at y0 y1 y2
 have u0:=Zaa q3 0;have u1:=Zaa q3 1;have u2:=Zaa q3 2;simp at u0 u1 u2
 have fu:=Zae q3;have F:=Zh0 x (.slice na x.hops.length nc) q3;have hown2:=Zau (j:=2) (u:=.slice na x.hops.length nc) hown' (show w.heap.size<w.heap.size+2 by omega)
 have G8:=ZbH (w4.setCell ⟨w.heap.size,2,none⟩ (.slice na x.hops.length nc)) (w.heap.size+1) x (.slice na x.hops.length nc);have hown3:=Zal (b0:=w.heap.size) (hown2.kept G8 (by
  cases hv:(Value.slice na x.hops.length nc).ownBlock with
  | none=>exact .inl rfl
  | some g=>exact .inr (fun e=>by have:=(hown2.lt g hv).1;simp at e;omega))) (by omega)
 have hb5:Below w.heap.size w (ZbT (w4.setCell ⟨w.heap.size,2,none⟩ (.slice na x.hops.length nc)) (w.heap.size+1) x (.slice na x.hops.length nc)):=(hb4.setCell (p:=⟨w.heap.size,2,none⟩) (Nat.le_refl _) _).grown G8 (by have:=Zab q3;omega) (fun k hk=>by simp at hk;omega)
 have FF:=hide F;have H3:=hide hown3;have H5:=hide hb5;clear F hown3 hb5 hown2 G8 hb4 hown' hgrow q0 q1 q2 q3 OW
 go_wp2_with fail
 (try simp only [Exit.inBlock,Exit.then])
 refine bodyPost_ret (results_cell_row rfl _ _ (w.heap.size+1) 183 (wayC _ _) (0,0) _ rfl FF.out Tryz.underlying183 rfl (by kernel_rfl)) rfl ?_
 exact⟨_,rfl,H3.out,H5.out⟩
theorem Zd1 (l:List Lk):(flat lkE l).length=l.length*4:=Zbt Zff l
theorem Zi4 (l:List Th):(flat thE l).length=l.length*4:=Zbt ZfD l
theorem Zd0 (a:Lk):∀ u∈lkE a,u.oneCell'=true:=by
 intro u hu;simp [lkE] at hu
 rcases hu with rfl | rfl | rfl | rfl <;> rfl
theorem Zi3 (a:Th):∀ u∈thE a,u.oneCell'=true:=by
 intro u hu;simp [thE] at hu
 rcases hu with rfl | rfl | rfl | rfl <;> rfl
theorem Tryz.infoLk4:(Tryz.prog.info? 127).map (fun i=>(i.zero,i.size,i.bytes))=some (some (.agg #[.int .i64 0,.int .i64 0,.int .i64 0,.int .i64 0]),4,32):=by kernel_rfl
theorem Tryz.infoTh4:(Tryz.prog.info? 131).map (fun i=>(i.zero,i.size,i.bytes))=some (some (.agg #[.int .i64 0,.int .i64 0,.int .i64 0,.bool false]),4,32):=by kernel_rfl
theorem Zjs (n:Int)(v1 v2:Value)(ls:List Lk)(ts:List Th)(hi:Nat)(w:World)(h1:w.ownsRow 0 127 4 v1 ls.length (flat lkE ls))(t1:∀ k,v1.ownBlock=some k->k<hi)(h2:w.ownsRow 0 131 4 v2 ts.length (flat thE ts))(t2:∀ k,v2.ownBlock=some k->k<hi)(hhi:hi<=w.heap.size)(hlL:ls.length<=1048576)(hlT:ts.length<=1048576):
  Calls Tryz.prog 64 #[.agg #[.int .i64 n,v1,v2]] w fun e w'=>∃ u1 u2,e=.returned (.agg #[.int .i64 n,u1,u2])/\w'.ownsRow w.heap.size 127 4 u1 ls.length (flat lkE ls)/\w'.ownsRow w.heap.size 131 4 u2 ts.length (flat thE ts)/\Below w.heap.size w w':=by
 obtain⟨a1,c1,rfl⟩:=Zac h1;obtain⟨a2,c2,rfl⟩:=Zac h2;have HL:=hide (fun W' (hb:Below w.heap.size w W')=>Zam (W':=W') h1 (fun k e=>hb.block k (by have:=t1 k e;omega)))
 have HT:=hide (fun W' (hb:Below w.heap.size w W')=>Zam (W':=W') h2 (fun k e=>hb.block k (by have:=t2 k e;omega)))
 clear h1 h2 t1 t2;have B0:Below w.heap.size w ((w.alloc (.cells #[.int .i64 n,.slice a1 ls.length c1,.slice a2 ts.length c2] 27)).alloc (.cells #[.int .i64 0,.slice none 0 0,.slice none 0 0] 27)):=((Below.refl w.heap.size w).alloc (Nat.le_refl _) _).alloc (by simp) _
 have q0:((w.alloc (.cells #[.int .i64 n,.slice a1 ls.length c1,.slice a2 ts.length c2] 27)).alloc (.cells #[.int .i64 0,.slice none 0 0,.slice none 0 0] 27)).heap[w.heap.size]? = some (.cells #[.int .i64 n,.slice a1 ls.length c1,.slice a2 ts.length c2] 27):=by rw [Below.heap_alloc _ _ _ (by simp),heap_alloc_new]
 have q1:((w.alloc (.cells #[.int .i64 n,.slice a1 ls.length c1,.slice a2 ts.length c2] 27)).alloc (.cells #[.int .i64 0,.slice none 0 0,.slice none 0 0] 27)).heap[w.heap.size+1]? = some (.cells #[.int .i64 0,.slice none 0 0,.slice none 0 0] 27):=by
  have h:=heap_alloc_new (w.alloc (.cells #[.int .i64 n,.slice a1 ls.length c1,.slice a2 ts.length c2] 27)) (.cells #[.int .i64 0,.slice none 0 0,.slice none 0 0] 27)
  simpa using h
 have z0:((w.alloc (.cells #[.int .i64 n,.slice a1 ls.length c1,.slice a2 ts.length c2] 27)).alloc (.cells #[.int .i64 0,.slice none 0 0,.slice none 0 0] 27)).heap.size=w.heap.size+2:=by simp
 have Q0:=hide q0;have Q1:=hide q1;have Z0:=hide z0;clear q0 q1 z0
 go_enter Tryz.func64,Tryz.ntmps64
 go_wp2_with (first | (at_builtin;refine ZbG Zd1 (by omega) Zd0 (by omega) _ rfl _ _ 24 rfl (w.heap.size+2) 127 Tryz.underlying24 (.agg #[.int .i64 0,.int .i64 0,.int .i64 0,.int .i64 0]) rfl Tryz.infoLk4 _ [] rfl (World.ownsRow_nil _ _ _ _) 0 _ ls rfl (HL.out _ B0) (by simp;omega) ?base ?_))
 case base=>(rw [Z0.out];exact Nat.le_refl _)
 intro v1' wA1 ho1 gr1;obtain⟨p1a,p1c,rfl⟩:=Zac ho1;simp only [Value.ownBlock,List.nil_append] at gr1 ho1
 try simp only [List.nil_append]
 have bA1:Below w.heap.size w wA1:=B0.grown gr1 (by have:=B0.size;omega) (fun k hk=>by simp at hk)
 have sA1:=gr1.size;have x01:=(gr1.block w.heap.size (Zab Q0.out) (by simp)).trans Q0.out
 have x11:=(gr1.block (w.heap.size+1) (Zab Q1.out) (by simp)).trans Q1.out
 have t13:=Zaa x01 1;have t14:=Zaa x01 2;have fz1:=Zae x01 1;simp at t13 t14
 have B1:Below w.heap.size w (wA1.setCell ⟨w.heap.size,1,none⟩ (.slice p1a ls.length p1c)):=bA1.setCell (Nat.le_refl _) _;have y01:(wA1.setCell ⟨w.heap.size,1,none⟩ (.slice p1a ls.length p1c)).heap[w.heap.size]? = some (.cells #[.int .i64 n,.slice p1a ls.length p1c,.slice a2 ts.length c2] 27):=heap_setCell_same _ _ 1 _ _ (.slice p1a ls.length p1c) x01;have y11:(wA1.setCell ⟨w.heap.size,1,none⟩ (.slice p1a ls.length p1c)).heap[w.heap.size+1]? = some (.cells #[.int .i64 0,.slice none 0 0,.slice none 0 0] 27):=by rw [heap_setCell_other _ ⟨w.heap.size,1,none⟩ _ _ (by show w.heap.size+1≠w.heap.size;omega)];exact x11
 have R10:=hide (Zau (p:=w.heap.size) (j:=1) (u:=.slice p1a ls.length p1c) ho1 (by omega))
 have Q01:=hide y01;have Q11:=hide y11;have zz1:(wA1.setCell ⟨w.heap.size,1,none⟩ (.slice p1a ls.length p1c)).heap.size=wA1.heap.size:=by simp
 clear x01 x11 y01 y11 ho1 gr1
 go_wp2_with (first | (at_builtin;refine ZbG Zi4 (by omega) Zi3 (by omega) _ rfl _ _ 25 rfl (w.heap.size+2) 131 Tryz.underlying25 (.agg #[.int .i64 0,.int .i64 0,.int .i64 0,.bool false]) rfl Tryz.infoTh4 _ [] rfl (World.ownsRow_nil _ _ _ _) 0 _ ts rfl (HT.out _ B1) (by simp;omega) ?base ?_))
 case base=>(rw [zz1];rw [Z0.out] at sA1;omega)
 intro v2' w6 ho2 gr2;obtain⟨p2a,p2c,rfl⟩:=Zac ho2;simp only [Value.ownBlock,List.nil_append] at gr2 ho2
 try simp only [List.nil_append]
 have bw6:Below w.heap.size w w6:=B1.grown gr2 (by have:=B1.size;omega) (fun k hk=>by simp at hk)
 have q2:=(gr2.block w.heap.size (Zab Q01.out) (by simp)).trans Q01.out
 have q1:=(gr2.block (w.heap.size+1) (Zab Q11.out) (by simp)).trans Q11.out
 have R20:=hide (Zam (W':=w6) R10.out (fun k hk=>gr2.block k (R10.out.lt k hk).2 (by simp)))
 have R21:=hide ho2;have r0:=Zaa q1 0;have r1:=Zaa q1 1;have r2:=Zaa q1 2;have t0:=Zaa q2 0;have t1:=Zaa q2 1;have t2:=Zaa q2 2;simp at r0 r1 r2 t0 t1 t2
 have fz0x:=Zae q1 0;have fz1x:=Zae q1 1;have fz2x:=Zae q1 2;have e2:=Zae q2 2;have QQ1:=hide q1;clear ho2 gr2 q1 q2
 go_wp2
 have hfin:((((w6.setCell ⟨w.heap.size,2,none⟩ (.slice p2a ts.length p2c)).setCell ⟨w.heap.size+1,0,none⟩ (.int .i64 n)).setCell ⟨w.heap.size+1,1,none⟩ (.slice p1a ls.length p1c)).setCell ⟨w.heap.size+1,2,none⟩ (.slice p2a ts.length p2c)).heap[w.heap.size+1]? = some (.cells #[.int .i64 n,.slice p1a ls.length p1c,.slice p2a ts.length p2c] 27):=by
  have k0:(w6.setCell ⟨w.heap.size,2,none⟩ (.slice p2a ts.length p2c)).heap[w.heap.size+1]? = some (.cells #[.int .i64 0,.slice none 0 0,.slice none 0 0] 27):=by
   rw [heap_setCell_other _ ⟨w.heap.size,2,none⟩ _ _ (by show w.heap.size+1≠w.heap.size;omega)]
   exact QQ1.out
  have k1:=heap_setCell_same _ _ 0 _ _ (.int .i64 n) k0;have k2:=heap_setCell_same _ _ 1 _ _ (.slice p1a ls.length p1c) k1;have k3:=heap_setCell_same _ _ 2 _ _ (.slice p2a ts.length p2c) k2;exact k3
 have hkeep:∀ k,w.heap.size+2<=k->((((w6.setCell ⟨w.heap.size,2,none⟩ (.slice p2a ts.length p2c)).setCell ⟨w.heap.size+1,0,none⟩ (.int .i64 n)).setCell ⟨w.heap.size+1,1,none⟩ (.slice p1a ls.length p1c)).setCell ⟨w.heap.size+1,2,none⟩ (.slice p2a ts.length p2c)).heap[k]? = w6.heap[k]? := fun k hk=>by
  rw [heap_setCell_other _ ⟨w.heap.size+1,2,none⟩ _ _ (by show k≠w.heap.size+1;omega),heap_setCell_other _ ⟨w.heap.size+1,1,none⟩ _ _ (by show k≠w.heap.size+1;omega),heap_setCell_other _ ⟨w.heap.size+1,0,none⟩ _ _ (by show k≠w.heap.size+1;omega),heap_setCell_other _ ⟨w.heap.size,2,none⟩ _ _ (by show k≠w.heap.size;omega)]
 have hbel:Below w.heap.size w ((((w6.setCell ⟨w.heap.size,2,none⟩ (.slice p2a ts.length p2c)).setCell ⟨w.heap.size+1,0,none⟩ (.int .i64 n)).setCell ⟨w.heap.size+1,1,none⟩ (.slice p1a ls.length p1c)).setCell ⟨w.heap.size+1,2,none⟩ (.slice p2a ts.length p2c)):=((((bw6.setCell (by show w.heap.size<=w.heap.size;omega) _).setCell (by show w.heap.size<=w.heap.size+1;omega) _).setCell (by show w.heap.size<=w.heap.size+1;omega) _).setCell (by show w.heap.size<=w.heap.size+1;omega) _)
 try simp only [Exit.inBlock,Exit.then]
 refine bodyPost_ret (results_cell_row rfl _ _ (w.heap.size+1) 27 #[.int .i64 n,.slice p1a ls.length p1c,.slice p2a ts.length p2c] (0,0) _ rfl hfin Tryz.underlying27 rfl (by kernel_rfl)) rfl ?_
 exact⟨_,_,rfl,Zal (Zam R20.out (fun k e=>hkeep k (R20.out.lt k e).1)) (by omega),Zal (Zam R21.out (fun k e=>hkeep k (R21.out.lt k e).1)) (by omega),hbel⟩
def Zgp (w w':World)(x:SelfD)(ps:List RP)(e:Ending):Prop:=∃ u1 u2 u3 u4 qs m1 m2,e=.returned (ZdL x u1 u2 u3 u4)/\fsts qs=fsts ps/\SelfOwn w' w.heap.size w'.heap.size u1 u2 u3 u4 x qs m1 m2/\Below w.heap.size w w'
theorem Zih (v1 v2 v3 v4:Value)(x:SelfD)(ps:List RP)(hi:Nat)(w:World)(hv:SelfSrc w hi v1 v2 v3 v4 x ps)(hhi:hi<=w.heap.size)(ht:totS x ps<=1048576):
  Calls Tryz.prog 28 #[ZdL x v1 v2 v3 v4] w fun e w'=>Zgp w w' x ps e:=by
 obtain⟨⟨a1,c1,rfl⟩,⟨a2,c2,rfl⟩,⟨a3,c3,rfl⟩,⟨a4,c4,rfl⟩⟩:=hv.in.shapes;have hlL:x.net.ls.length<=1048576:=by unfold totS at ht;omega
 have hlT:x.net.ts.length<=1048576:=by unfold totS at ht;omega
 have hlH:x.heard.length<=1048576:=by unfold totS at ht;omega
 have hlR:tot ps<=1048576:=by unfold totS at ht;omega
 have HX:=hide hv;clear hv ht;unfold Zgp;have B0:Below w.heap.size w ((w.alloc (.cells #[.int .i64 x.id,.int .i64 x.boot,.int .i64 x.net.n,.slice a1 x.net.ls.length c1,.slice a2 x.net.ts.length c2,.slice a3 x.heard.length c3,.slice a4 ps.length c4] 31)).alloc (.cells #[.int .i64 0,.int .i64 0,.int .i64 0,.slice none 0 0,.slice none 0 0,.slice none 0 0,.slice none 0 0] 31)):=((Below.refl w.heap.size w).alloc (Nat.le_refl _) _).alloc (by simp) _
 have q0:((w.alloc (.cells #[.int .i64 x.id,.int .i64 x.boot,.int .i64 x.net.n,.slice a1 x.net.ls.length c1,.slice a2 x.net.ts.length c2,.slice a3 x.heard.length c3,.slice a4 ps.length c4] 31)).alloc (.cells #[.int .i64 0,.int .i64 0,.int .i64 0,.slice none 0 0,.slice none 0 0,.slice none 0 0,.slice none 0 0] 31)).heap[w.heap.size]? = some (.cells #[.int .i64 x.id,.int .i64 x.boot,.int .i64 x.net.n,.slice a1 x.net.ls.length c1,.slice a2 x.net.ts.length c2,.slice a3 x.heard.length c3,.slice a4 ps.length c4] 31):=by rw [Below.heap_alloc _ _ _ (by simp),heap_alloc_new]
 have q1:((w.alloc (.cells #[.int .i64 x.id,.int .i64 x.boot,.int .i64 x.net.n,.slice a1 x.net.ls.length c1,.slice a2 x.net.ts.length c2,.slice a3 x.heard.length c3,.slice a4 ps.length c4] 31)).alloc (.cells #[.int .i64 0,.int .i64 0,.int .i64 0,.slice none 0 0,.slice none 0 0,.slice none 0 0,.slice none 0 0] 31)).heap[w.heap.size+1]? = some (.cells #[.int .i64 0,.int .i64 0,.int .i64 0,.slice none 0 0,.slice none 0 0,.slice none 0 0,.slice none 0 0] 31):=by
  have h:=heap_alloc_new (w.alloc (.cells #[.int .i64 x.id,.int .i64 x.boot,.int .i64 x.net.n,.slice a1 x.net.ls.length c1,.slice a2 x.net.ts.length c2,.slice a3 x.heard.length c3,.slice a4 ps.length c4] 31)) (.cells #[.int .i64 0,.int .i64 0,.int .i64 0,.slice none 0 0,.slice none 0 0,.slice none 0 0,.slice none 0 0] 31)
  simpa using h
 have z0:((w.alloc (.cells #[.int .i64 x.id,.int .i64 x.boot,.int .i64 x.net.n,.slice a1 x.net.ls.length c1,.slice a2 x.net.ts.length c2,.slice a3 x.heard.length c3,.slice a4 ps.length c4] 31)).alloc (.cells #[.int .i64 0,.int .i64 0,.int .i64 0,.slice none 0 0,.slice none 0 0,.slice none 0 0,.slice none 0 0] 31)).heap.size=w.heap.size+2:=by simp
 have HON:=hide (Zjs x.net.n (.slice a1 x.net.ls.length c1) (.slice a2 x.net.ts.length c2) x.net.ls x.net.ts hi ((w.alloc (.cells #[.int .i64 x.id,.int .i64 x.boot,.int .i64 x.net.n,.slice a1 x.net.ls.length c1,.slice a2 x.net.ts.length c2,.slice a3 x.heard.length c3,.slice a4 ps.length c4] 31)).alloc (.cells #[.int .i64 0,.int .i64 0,.int .i64 0,.slice none 0 0,.slice none 0 0,.slice none 0 0,.slice none 0 0] 31)) (HX.out.below B0 hhi).links (HX.out.below B0 hhi).ltop (HX.out.below B0 hhi).things (HX.out.below B0 hhi).ttop (by rw [z0];omega) hlL hlT)
 have Q0:=hide q0;have Q1:=hide q1;have Z0:=hide z0;clear q0 q1 z0
 go_enter Tryz.func28,Tryz.ntmps28
 go_wp2_with fail
 obtain⟨w0,hw0⟩:∃ W,W=((w.alloc (.cells #[.int .i64 x.id,.int .i64 x.boot,.int .i64 x.net.n,.slice a1 x.net.ls.length c1,.slice a2 x.net.ts.length c2,.slice a3 x.heard.length c3,.slice a4 ps.length c4] 31)).alloc (.cells #[.int .i64 0,.int .i64 0,.int .i64 0,.slice none 0 0,.slice none 0 0,.slice none 0 0,.slice none 0 0] 31)):=⟨_,rfl⟩;rw [<-hw0] at HON B0 Q0 Q1 Z0 |-;clear hw0;refine HON.out.mono ?_
 rintro e wN ⟨u1,u2,rfl,ho1,ho2,bN⟩;obtain⟨p1a,p1c,rfl⟩:=Zac ho1;obtain⟨p2a,p2c,rfl⟩:=Zac ho2;have bA1:Below w.heap.size w wN:=B0.trans (bN.mono B0.size);have x01:=(bN.block w.heap.size (Zab Q0.out)).trans Q0.out;have x11:=(bN.block (w.heap.size+1) (Zab Q1.out)).trans Q1.out;have sN:=Zab x11;have t12:=Zaa x01 2;have t13:=Zaa x01 3;have t14:=Zaa x01 4;have t15:=Zaa x01 5;have fz2:=Zae x01 2;have fz3:=Zae x01 3;have fz4:=Zae x01 4;simp at t12 t13 t14 t15
 obtain⟨wA2,hwA2⟩:∃ W,W=(((wN.setCell ⟨w.heap.size,2,none⟩ (.int .i64 x.net.n)).setCell ⟨w.heap.size,3,none⟩ (.slice p1a x.net.ls.length p1c)).setCell ⟨w.heap.size,4,none⟩ (.slice p2a x.net.ts.length p2c)):=⟨_,rfl⟩;have B2:Below w.heap.size w wA2:=by rw [hwA2];exact (((bA1.setCell (by show w.heap.size<=w.heap.size;omega) _).setCell (by show w.heap.size<=w.heap.size;omega) _).setCell (by show w.heap.size<=w.heap.size;omega) _)
 have y02:wA2.heap[w.heap.size]? = some (.cells #[.int .i64 x.id,.int .i64 x.boot,.int .i64 x.net.n,.slice p1a x.net.ls.length p1c,.slice p2a x.net.ts.length p2c,.slice a3 x.heard.length c3,.slice a4 ps.length c4] 31):=by
  rw [hwA2];exact heap_setCell_same _ _ 4 _ _ (.slice p2a x.net.ts.length p2c) (heap_setCell_same _ _ 3 _ _ (.slice p1a x.net.ls.length p1c) (heap_setCell_same _ _ 2 _ _ (.int .i64 x.net.n) x01))
 have y12:wA2.heap[w.heap.size+1]? = some (.cells #[.int .i64 0,.int .i64 0,.int .i64 0,.slice none 0 0,.slice none 0 0,.slice none 0 0,.slice none 0 0] 31):=by rw [hwA2,heap_setCell_other _ ⟨w.heap.size,4,none⟩ _ _ (by show w.heap.size+1≠w.heap.size;omega),heap_setCell_other _ ⟨w.heap.size,3,none⟩ _ _ (by show w.heap.size+1≠w.heap.size;omega),heap_setCell_other _ ⟨w.heap.size,2,none⟩ _ _ (by show w.heap.size+1≠w.heap.size;omega)];exact x11
 rw [Z0.out] at ho1 ho2;have hk2:∀ k,w.heap.size+2<=k->wA2.heap[k]? = wN.heap[k]? := fun k hk=>by rw [hwA2,heap_setCell_other _ ⟨w.heap.size,4,none⟩ _ _ (by show k≠w.heap.size;omega),heap_setCell_other _ ⟨w.heap.size,3,none⟩ _ _ (by show k≠w.heap.size;omega),heap_setCell_other _ ⟨w.heap.size,2,none⟩ _ _ (by show k≠w.heap.size;omega)]
 have R20:=hide (Zam (W':=wA2) ho1 (fun k e=>hk2 k (ho1.lt k e).1))
 have R21:=hide (Zam (W':=wA2) ho2 (fun k e=>hk2 k (ho2.lt k e).1))
 have zz2:wA2.heap.size=wN.heap.size:=by rw [hwA2];simp
 have ZZ2:=hide zz2;have HW2:=hide hwA2;have Q02:=hide y02;have Q12:=hide y12;clear x01 x11 y02 y12 ho1 ho2 hwA2 hk2 zz2
 go_upto_region 2 with fail
 rw [<-HW2.out];have t35:=Zaa Q02.out 5;simp at t35
 go_wp2_with (first | (at_builtin;refine ZbG ZdZ (by omega) Zc0 (by omega) _ rfl _ _ 28 rfl wA2.heap.size 3 Tryz.underlying28 (.int .i64 0) rfl Tryz.info3 _ [] rfl (World.ownsRow_nil _ _ _ _) 0 _ x.heard rfl (HX.out.below B2 hhi).heard (by simp;omega) ?base ?_))
 case base=>exact Nat.le_refl _
 intro v3' wA3 ho3 gr3;obtain⟨p3a,p3c,rfl⟩:=Zac ho3;simp only [Value.ownBlock,List.nil_append] at gr3 ho3
 try simp only [List.nil_append]
 have bA3:Below w.heap.size w wA3:=B2.grown gr3 (by have:=B2.size;omega) (fun k hk=>by simp at hk)
 have sA3:=gr3.size;have x03:=(gr3.block w.heap.size (Zab Q02.out) (by simp)).trans Q02.out
 have x13:=(gr3.block (w.heap.size+1) (Zab Q12.out) (by simp)).trans Q12.out
 have r30:=Zam (W':=wA3) R20.out (fun k hk=>gr3.block k (R20.out.lt k hk).2 (by simp))
 have r31:=Zam (W':=wA3) R21.out (fun k hk=>gr3.block k (R21.out.lt k hk).2 (by simp))
 have t35:=Zaa x03 5;have t36:=Zaa x03 6;have fz3:=Zae x03 5;simp at t35 t36
 have B3:Below w.heap.size w (wA3.setCell ⟨w.heap.size,5,none⟩ (.slice p3a x.heard.length p3c)):=bA3.setCell (Nat.le_refl _) _;have y03:(wA3.setCell ⟨w.heap.size,5,none⟩ (.slice p3a x.heard.length p3c)).heap[w.heap.size]? = some (.cells #[.int .i64 x.id,.int .i64 x.boot,.int .i64 x.net.n,.slice p1a x.net.ls.length p1c,.slice p2a x.net.ts.length p2c,.slice p3a x.heard.length p3c,.slice a4 ps.length c4] 31):=heap_setCell_same _ _ 5 _ _ (.slice p3a x.heard.length p3c) x03;have y13:(wA3.setCell ⟨w.heap.size,5,none⟩ (.slice p3a x.heard.length p3c)).heap[w.heap.size+1]? = some (.cells #[.int .i64 0,.int .i64 0,.int .i64 0,.slice none 0 0,.slice none 0 0,.slice none 0 0,.slice none 0 0] 31):=by rw [heap_setCell_other _ ⟨w.heap.size,5,none⟩ _ _ (by show w.heap.size+1≠w.heap.size;omega)];exact x13
 have hw2:w.heap.size+1<wA2.heap.size:=by have:=Zab Q12.out;omega
 have R30:=hide (Zau (p:=w.heap.size) (j:=5) (u:=.slice p3a x.heard.length p3c) r30 (by omega))
 have R31:=hide (Zau (p:=w.heap.size) (j:=5) (u:=.slice p3a x.heard.length p3c) r31 (by omega))
 have R32:=hide (Zau (p:=w.heap.size) (j:=5) (u:=.slice p3a x.heard.length p3c) ho3 (by omega))
 have Q03:=hide y03;have Q13:=hide y13;have zz3:(wA3.setCell ⟨w.heap.size,5,none⟩ (.slice p3a x.heard.length p3c)).heap.size=wA3.heap.size:=by simp
 clear x03 x13 y03 y13 ho3 gr3 r30 r31;have HOW:=hide (Zfo (.slice a4 ps.length c4) ps hi (wA3.setCell ⟨w.heap.size,5,none⟩ (.slice p3a x.heard.length p3c)) (HX.out.store.below B3 hhi) (by have:=B3.size;omega) hlR)
 go_wp2_with fail
 obtain⟨wS,hwS⟩:∃ W,W=(wA3.setCell ⟨w.heap.size,5,none⟩ (.slice p3a x.heard.length p3c)):=⟨_,rfl⟩;rw [<-hwS] at B3 zz3 Q03 Q13 HOW R30 R31 R32 |-;clear hwS;refine HOW.out.mono ?_
 rintro e w6 ⟨p4,qs,rfl,fq,ho4,b6⟩;obtain⟨p4a,p4c,rfl⟩:=Zac ho4.row;have hz6:=b6.size;have bs3:=B3.size;have bw6:Below w.heap.size w w6:=B3.trans (b6.mono B3.size);have q2:=(b6.block _ (Zab Q03.out)).trans Q03.out;have q1:=(b6.block _ (Zab Q13.out)).trans Q13.out;have hl6:=Zab q1;have n0:=fun k hk=>(R30.out.lt k hk)
 have n1:=fun k hk=>(R31.out.lt k hk)
 have n2:=fun k hk=>(R32.out.lt k hk)
 have hbig:w.heap.size+2<=wS.heap.size:=by have:=Zab Q13.out;omega
 have OW:=hide (show SelfOwn w6 (w.heap.size+2) w6.heap.size (.slice p1a x.net.ls.length p1c) (.slice p2a x.net.ts.length p2c) (.slice p3a x.heard.length p3c) (.slice p4a qs.length p4c) x qs wA2.heap.size wS.heap.size from
  {o1:=by have:=Zab Q12.out;omega
   o2:=by omega
   o3:=hz6
   links:=Zah R30.out b6 (Nat.le_refl _)
   ltop:=fun k e=>by have:=(R20.out.lt k e).2;omega
   things:=Zah R31.out b6 (Nat.le_refl _)
   ttop:=fun k e=>by have:=(R21.out.lt k e).2;omega
   heard:=⟨Zah R32.out b6 (Nat.le_refl _),fun k e=>(R32.out.lt k e).2⟩
   store:=ho4 })
 have FQ:=hide fq;have r0:=Zaa q1 0;have r1:=Zaa q1 1;have r2:=Zaa q1 2;have r3:=Zaa q1 3;have r4:=Zaa q1 4;have r5:=Zaa q1 5;have r6:=Zaa q1 6;simp at r0 r1 r2 r3 r4 r5 r6
 have t0:=Zaa q2 0;have t1:=Zaa q2 1;have t2:=Zaa q2 2;have t3:=Zaa q2 3;have t4:=Zaa q2 4;have t5:=Zaa q2 5;have t6:=Zaa q2 6;simp at t0 t1 t2 t3 t4 t5 t6
 have fz0x:=Zae q1 0;have fz1x:=Zae q1 1;have fz2x:=Zae q1 2;have fz3x:=Zae q1 3;have fz4x:=Zae q1 4;have fz5x:=Zae q1 5;have fz6x:=Zae q1 6;have e6:=Zae q2 6;have QQ1:=hide q1;clear ho4 q1 q2 fq
 go_wp2
 have hfin:((((((((w6.setCell ⟨w.heap.size,6,none⟩ (.slice p4a qs.length p4c)).setCell ⟨w.heap.size+1,0,none⟩ (.int .i64 x.id)).setCell ⟨w.heap.size+1,1,none⟩ (.int .i64 x.boot)).setCell ⟨w.heap.size+1,2,none⟩ (.int .i64 x.net.n)).setCell ⟨w.heap.size+1,3,none⟩ (.slice p1a x.net.ls.length p1c)).setCell ⟨w.heap.size+1,4,none⟩ (.slice p2a x.net.ts.length p2c)).setCell ⟨w.heap.size+1,5,none⟩ (.slice p3a x.heard.length p3c)).setCell ⟨w.heap.size+1,6,none⟩ (.slice p4a qs.length p4c)).heap[w.heap.size+1]? = some (.cells #[.int .i64 x.id,.int .i64 x.boot,.int .i64 x.net.n,.slice p1a x.net.ls.length p1c,.slice p2a x.net.ts.length p2c,.slice p3a x.heard.length p3c,.slice p4a qs.length p4c] 31):=by
  have k0:(w6.setCell ⟨w.heap.size,6,none⟩ (.slice p4a qs.length p4c)).heap[w.heap.size+1]? = some (.cells #[.int .i64 0,.int .i64 0,.int .i64 0,.slice none 0 0,.slice none 0 0,.slice none 0 0,.slice none 0 0] 31):=by
   rw [heap_setCell_other _ ⟨w.heap.size,6,none⟩ _ _ (by show w.heap.size+1≠w.heap.size;omega)]
   exact QQ1.out
  have k1:=heap_setCell_same _ _ 0 _ _ (.int .i64 x.id) k0;have k2:=heap_setCell_same _ _ 1 _ _ (.int .i64 x.boot) k1;have k3:=heap_setCell_same _ _ 2 _ _ (.int .i64 x.net.n) k2;have k4:=heap_setCell_same _ _ 3 _ _ (.slice p1a x.net.ls.length p1c) k3;have k5:=heap_setCell_same _ _ 4 _ _ (.slice p2a x.net.ts.length p2c) k4;have k6:=heap_setCell_same _ _ 5 _ _ (.slice p3a x.heard.length p3c) k5;have k7:=heap_setCell_same _ _ 6 _ _ (.slice p4a qs.length p4c) k6;exact k7
 have hkeep:∀ k,w.heap.size+2<=k->((((((((w6.setCell ⟨w.heap.size,6,none⟩ (.slice p4a qs.length p4c)).setCell ⟨w.heap.size+1,0,none⟩ (.int .i64 x.id)).setCell ⟨w.heap.size+1,1,none⟩ (.int .i64 x.boot)).setCell ⟨w.heap.size+1,2,none⟩ (.int .i64 x.net.n)).setCell ⟨w.heap.size+1,3,none⟩ (.slice p1a x.net.ls.length p1c)).setCell ⟨w.heap.size+1,4,none⟩ (.slice p2a x.net.ts.length p2c)).setCell ⟨w.heap.size+1,5,none⟩ (.slice p3a x.heard.length p3c)).setCell ⟨w.heap.size+1,6,none⟩ (.slice p4a qs.length p4c)).heap[k]? = w6.heap[k]? := fun k hk=>by
  rw [heap_setCell_other _ ⟨w.heap.size+1,6,none⟩ _ _ (by show k≠w.heap.size+1;omega),heap_setCell_other _ ⟨w.heap.size+1,5,none⟩ _ _ (by show k≠w.heap.size+1;omega),heap_setCell_other _ ⟨w.heap.size+1,4,none⟩ _ _ (by show k≠w.heap.size+1;omega),heap_setCell_other _ ⟨w.heap.size+1,3,none⟩ _ _ (by show k≠w.heap.size+1;omega),heap_setCell_other _ ⟨w.heap.size+1,2,none⟩ _ _ (by show k≠w.heap.size+1;omega),heap_setCell_other _ ⟨w.heap.size+1,1,none⟩ _ _ (by show k≠w.heap.size+1;omega),heap_setCell_other _ ⟨w.heap.size+1,0,none⟩ _ _ (by show k≠w.heap.size+1;omega),heap_setCell_other _ ⟨w.heap.size,6,none⟩ _ _ (by show k≠w.heap.size;omega)]
 have hsize:((((((((w6.setCell ⟨w.heap.size,6,none⟩ (.slice p4a qs.length p4c)).setCell ⟨w.heap.size+1,0,none⟩ (.int .i64 x.id)).setCell ⟨w.heap.size+1,1,none⟩ (.int .i64 x.boot)).setCell ⟨w.heap.size+1,2,none⟩ (.int .i64 x.net.n)).setCell ⟨w.heap.size+1,3,none⟩ (.slice p1a x.net.ls.length p1c)).setCell ⟨w.heap.size+1,4,none⟩ (.slice p2a x.net.ts.length p2c)).setCell ⟨w.heap.size+1,5,none⟩ (.slice p3a x.heard.length p3c)).setCell ⟨w.heap.size+1,6,none⟩ (.slice p4a qs.length p4c)).heap.size=w6.heap.size:=by simp
 have hbel:Below w.heap.size w ((((((((w6.setCell ⟨w.heap.size,6,none⟩ (.slice p4a qs.length p4c)).setCell ⟨w.heap.size+1,0,none⟩ (.int .i64 x.id)).setCell ⟨w.heap.size+1,1,none⟩ (.int .i64 x.boot)).setCell ⟨w.heap.size+1,2,none⟩ (.int .i64 x.net.n)).setCell ⟨w.heap.size+1,3,none⟩ (.slice p1a x.net.ls.length p1c)).setCell ⟨w.heap.size+1,4,none⟩ (.slice p2a x.net.ts.length p2c)).setCell ⟨w.heap.size+1,5,none⟩ (.slice p3a x.heard.length p3c)).setCell ⟨w.heap.size+1,6,none⟩ (.slice p4a qs.length p4c)):=((((((((bw6.setCell (by show w.heap.size<=w.heap.size;omega) _).setCell (by show w.heap.size<=w.heap.size+1;omega) _).setCell (by show w.heap.size<=w.heap.size+1;omega) _).setCell (by show w.heap.size<=w.heap.size+1;omega) _).setCell (by show w.heap.size<=w.heap.size+1;omega) _).setCell (by show w.heap.size<=w.heap.size+1;omega) _).setCell (by show w.heap.size<=w.heap.size+1;omega) _).setCell (by show w.heap.size<=w.heap.size+1;omega) _)
 try simp only [Exit.inBlock,Exit.then]
 refine bodyPost_ret (results_cell_row rfl _ _ (w.heap.size+1) 31 #[.int .i64 x.id,.int .i64 x.boot,.int .i64 x.net.n,.slice p1a x.net.ls.length p1c,.slice p2a x.net.ts.length p2c,.slice p3a x.heard.length p3c,.slice p4a qs.length p4c] (0,0) _ rfl hfin Tryz.underlying31 rfl (by kernel_rfl)) rfl ?_
 exact⟨_,_,_,_,qs,_,_,rfl,FQ.out,((OW.out.keep (fun k h1 _ _=>hkeep k h1)).low (by omega)).high (by rw [hsize];omega),hbel⟩
end Go.Proofs.YtcimbiinljcifaaGreat
