/-
  LearnI CopyS
-/
import Derived.Test.YtcimbiinljcifaaGreatLn13
import Derived.Test.YtcimbiinljcifaaGreatLn20
import Derived.Test.YtcimbiinljcifaaGreatLn35
import Derived.Test.YtcimbiinljcifaaGreatLn21
import Derived.Test.YtcimbiinljcifaaGreatLn38
import Derived.Test.YtcimbiinljcifaaGreatLn14
import Derived.Test.YtcimbiinljcifaaGreatLn7
namespace Go.Proofs.YtcimbiinljcifaaGreat
open Go.RowKit
set_option linter.unusedSimpArgs false
set_option linter.unusedVariables false
set_option maxRecDepth 100000
set_option maxHeartbeats 8000000
def Zc8 (x:SelfD)(ps ts:List RP):List RecD:=if ZcE x ps then (fsts ts).foldl Za7 (fsts ps) else fsts ps
def ZcB (x:SelfD)(ps ts:List RP):List RecD:=if ZcE x ps then Zbu (fsts ps) (fsts ts) else []
theorem ZgX {x:SelfD}{ps:List RP}(h:ZcE x ps=true):Asc (fsts ps):=by
 unfold ZcE at h;simp only [Bool.and_eq_true] at h
 exact ZeD h.2.2.2.2
theorem ZfZ (v1 v2 v3 v4 v5:Value)(x:SelfD)(ps ts:List RP)(hi:Nat)(w:World)(hv:SelfSrc w hi v1 v2 v3 v4 x ps)(hl:RecsIn w hi v5 ts)(hhi:hi<=w.heap.size)(ht:totS x ps+tot ts<=1048576):
  Calls Tryz.prog 8 #[ZdL x v1 v2 v3 v4,v5] w fun e w'=>∃ u1 u2 u3 u4 u5 qs ns m1 m2,e=.returned (.tuple #[ZdL x u1 u2 u3 u4,u5])/\fsts qs=Zc8 x ps ts/\fsts ns=ZcB x ps ts/\SelfOwn w' w.heap.size w'.heap.size u1 u2 u3 u4 x qs m1 m2/\RecsOwn w' m2 w'.heap.size u5 ns/\Sep u4 qs u5 ns/\Below w.heap.size w w':=by
 obtain⟨⟨a1,a1c,rfl⟩,⟨a2,a2c,rfl⟩,⟨a3,a3c,rfl⟩,⟨a4,a4c,rfl⟩⟩:=hv.in.shapes;obtain⟨l5,c5,rfl⟩:=Zac hl.row;have HX:=hide hv;have HL:=hide hl;clear hv hl;have B0:Below w.heap.size w ((w.alloc (.cells #[.int .i64 x.id,.int .i64 x.boot,.int .i64 x.net.n,.slice a1 x.net.ls.length a1c,.slice a2 x.net.ts.length a2c,.slice a3 x.heard.length a3c,.slice a4 ps.length a4c] 31)).alloc (.cells #[.int .i64 0,.int .i64 0,.int .i64 0,.slice none 0 0,.slice none 0 0,.slice none 0 0,.slice none 0 0] 31)):=((Below.refl w.heap.size w).alloc (Nat.le_refl _) _).alloc (by simp) _
 have q0:((w.alloc (.cells #[.int .i64 x.id,.int .i64 x.boot,.int .i64 x.net.n,.slice a1 x.net.ls.length a1c,.slice a2 x.net.ts.length a2c,.slice a3 x.heard.length a3c,.slice a4 ps.length a4c] 31)).alloc (.cells #[.int .i64 0,.int .i64 0,.int .i64 0,.slice none 0 0,.slice none 0 0,.slice none 0 0,.slice none 0 0] 31)).heap[w.heap.size]? = some (.cells #[.int .i64 x.id,.int .i64 x.boot,.int .i64 x.net.n,.slice a1 x.net.ls.length a1c,.slice a2 x.net.ts.length a2c,.slice a3 x.heard.length a3c,.slice a4 ps.length a4c] 31):=by rw [Below.heap_alloc _ _ _ (by simp),heap_alloc_new]
 have q1:((w.alloc (.cells #[.int .i64 x.id,.int .i64 x.boot,.int .i64 x.net.n,.slice a1 x.net.ls.length a1c,.slice a2 x.net.ts.length a2c,.slice a3 x.heard.length a3c,.slice a4 ps.length a4c] 31)).alloc (.cells #[.int .i64 0,.int .i64 0,.int .i64 0,.slice none 0 0,.slice none 0 0,.slice none 0 0,.slice none 0 0] 31)).heap[w.heap.size+1]? = some (.cells #[.int .i64 0,.int .i64 0,.int .i64 0,.slice none 0 0,.slice none 0 0,.slice none 0 0,.slice none 0 0] 31):=by
  have h:=heap_alloc_new (w.alloc (.cells #[.int .i64 x.id,.int .i64 x.boot,.int .i64 x.net.n,.slice a1 x.net.ls.length a1c,.slice a2 x.net.ts.length a2c,.slice a3 x.heard.length a3c,.slice a4 ps.length a4c] 31)) (.cells #[.int .i64 0,.int .i64 0,.int .i64 0,.slice none 0 0,.slice none 0 0,.slice none 0 0,.slice none 0 0] 31)
  simpa using h
 have HOS:=hide (Zih _ _ _ _ x ps hi _ (HX.out.below B0 hhi) (by have:=B0.size;omega) (by omega))
 have Q0:=hide q0;have Q1:=hide q1;clear q0 q1;obtain⟨R,hR⟩:∃ R,R=ZcE x ps:=⟨_,rfl⟩;have HR:=hide hR;clear hR
 go_enter Tryz.func8,Tryz.ntmps8
 go_wp2_with fail
 obtain⟨w0,hw0⟩:∃ W,W=(w.alloc (.cells #[.int .i64 x.id,.int .i64 x.boot,.int .i64 x.net.n,.slice a1 x.net.ls.length a1c,.slice a2 x.net.ts.length a2c,.slice a3 x.heard.length a3c,.slice a4 ps.length a4c] 31)).alloc (.cells #[.int .i64 0,.int .i64 0,.int .i64 0,.slice none 0 0,.slice none 0 0,.slice none 0 0,.slice none 0 0] 31):=⟨_,rfl⟩;rw [<-hw0] at B0 Q0 Q1 HOS |-;clear hw0;refine HOS.out.mono ?_
 rintro e w1 ⟨y1,y2,y3,y4,qs,m1,m2,rfl,fq,o1,b1⟩;obtain⟨⟨y1,y1c,rfl⟩,⟨y2,y2c,rfl⟩,⟨y3,y3c,rfl⟩,⟨y4,y4c,rfl⟩⟩:=o1.in.shapes;have B1:Below w.heap.size w w1:=B0.trans (b1.mono B0.size);have g0:=(b1.block _ (Zab Q0.out)).trans Q0.out;have g1:=(b1.block _ (Zab Q1.out)).trans Q1.out;have hl0:=Zab Q1.out;have hl1:=b1.size;have s0:=Zaa g0 0;have s1:=Zaa g0 1;have s2:=Zaa g0 2;have s3:=Zaa g0 3;have s4:=Zaa g0 4;have s5:=Zaa g0 5;have s6:=Zaa g0 6;simp at s0 s1 s2 s3 s4 s5 s6
 have hlw:w.heap.size<w1.heap.size:=by omega
 have hlne:¬w.heap.size=w1.heap.size:=by omega
 have BN:Below w1.heap.size w1 (w1.alloc (.cells #[.int .i64 x.id,.int .i64 x.boot,.int .i64 x.net.n,.slice y1 x.net.ls.length y1c,.slice y2 x.net.ts.length y2c,.slice y3 x.heard.length y3c,.slice y4 qs.length y4c] 31)):=(Below.refl _ _).alloc (Nat.le_refl _) _;have B2:Below w.heap.size w (w1.alloc (.cells #[.int .i64 x.id,.int .i64 x.boot,.int .i64 x.net.n,.slice y1 x.net.ls.length y1c,.slice y2 x.net.ts.length y2c,.slice y3 x.heard.length y3c,.slice y4 qs.length y4c] 31)):=B1.trans (BN.mono B1.size);have HSO:=hide (Zfa _ _ _ _ x ps (w1.alloc (.cells #[.int .i64 x.id,.int .i64 x.boot,.int .i64 x.net.n,.slice y1 x.net.ls.length y1c,.slice y2 x.net.ts.length y2c,.slice y3 x.heard.length y3c,.slice y4 qs.length y4c] 31)) (by omega) ((HX.out.below B2 hhi).in.more (by have:=B2.size;omega)))
 rw [<-HR.out] at HSO;have hz:=heap_alloc_new w1 (.cells #[.int .i64 x.id,.int .i64 x.boot,.int .i64 x.net.n,.slice y1 x.net.ls.length y1c,.slice y2 x.net.ts.length y2c,.slice y3 x.heard.length y3c,.slice y4 qs.length y4c] 31);have g0':=(BN.block _ (Zab g0)).trans g0;have g1':=(BN.block _ (Zab g1)).trans g1;have O1:=hide ((o1.below BN (Nat.le_refl _)));have FQ:=hide fq;have G0:=hide g0';have G1:=hide g1';have GZ:=hide hz;clear g0 g1 g0' g1' hz o1 fq b1 HOS Q0 Q1
 go_wp2_with fail
 obtain⟨w2,hw2⟩:∃ W,W=w1.alloc (.cells #[.int .i64 x.id,.int .i64 x.boot,.int .i64 x.net.n,.slice y1 x.net.ls.length y1c,.slice y2 x.net.ts.length y2c,.slice y3 x.heard.length y3c,.slice y4 qs.length y4c] 31):=⟨_,rfl⟩;rw [<-hw2] at BN B2 HSO O1 G0 G1 GZ |-;have hs12:w1.heap.size<w2.heap.size:=by rw [hw2];simp
 clear hw2;obtain⟨z,hzz⟩:∃ z,z=w1.heap.size:=⟨_,rfl⟩;rw [<-hzz] at GZ |-;have HZZ:=hide hzz;clear hzz;refine HSO.out.mono ?_
 rintro e w3 ⟨rfl,b3⟩;clear s0 s1 s2 s3 s4 s5 s6;have B3:Below w.heap.size w w3:=B2.trans (b3.mono B2.size);have g0:=(b3.block _ (Zab G0.out)).trans G0.out;have g1:=(b3.block _ (Zab G1.out)).trans G1.out;have gz:=(b3.block _ (Zab GZ.out)).trans GZ.out;have hs23:=b3.size;have O3:=hide (O1.out.below b3 (by omega))
 clear b3 HSO O1 G0 G1 GZ;cases R
 ·have t0:=Zaa gz 0
  have t1:=Zaa gz 1;have t2:=Zaa gz 2;have t3:=Zaa gz 3;have t4:=Zaa gz 4;have t5:=Zaa gz 5;have t6:=Zaa gz 6;simp at t0 t1 t2 t3 t4 t5 t6
  have hlz:w.heap.size+1<w3.heap.size:=Zab g1;have hlz2:z<w3.heap.size:=Zab gz;have hm2:=O3.out.o3;have G1:=hide g1;have hSL:=hide (show Zc8 x ps ts=fsts ps by unfold Zc8;rw [<-HR.out];rfl)
  have hSN:=hide (show ZcB x ps ts=[] by unfold ZcB;rw [<-HR.out];rfl)
  have SEP:=hide (show Sep (.slice y4 qs.length y4c) qs (.slice (some ⟨w3.heap.size,0,none⟩) 0 0) [] from fun k h1 h2=>by
   have h3:=(O3.out.store.blk k h1).2.2
   rcases h2 with h2 | ⟨p,hp,_⟩
   ·simp [Value.ownBlock] at h2;omega
   ·simp at hp)
  have LIT:=hide (Zce w3 m2 (by omega))
  clear g0 g1 gz
  go_wp2_with (refine Zed rfl rfl ?_)
  intro w4 hw4h;have hw4:=hw4h.out;have b4:Below w3.heap.size w3 w4:=by rw [hw4];exact (Below.refl _ _).alloc (Nat.le_refl _) _
  rw [<-hw4] at LIT;have hs4:w3.heap.size<w4.heap.size:=by rw [hw4];simp
  have B4:Below w.heap.size w w4:=B3.trans (b4.mono B3.size);have g1:=(b4.block _ (Zab G1.out)).trans G1.out;have O4:=hide (O3.out.below b4 (by omega))
  have GA:=hide g1;clear hw4 hw4h t0 t1 t2 t3 t4 t5 t6;have r0:=Zaa g1 0;have r1:=Zaa g1 1;have r2:=Zaa g1 2;have r3:=Zaa g1 3;have r4:=Zaa g1 4;have r5:=Zaa g1 5;have r6:=Zaa g1 6;simp at r0 r1 r2 r3 r4 r5 r6
  have fz0x:=Zae g1 0;have fz1x:=Zae g1 1;have fz2x:=Zae g1 2;have fz3x:=Zae g1 3;have fz4x:=Zae g1 4;have fz5x:=Zae g1 5;have fz6x:=Zae g1 6;clear g1
  go_wp2
  have hfin:(((((((w4.setCell ⟨w.heap.size+1,0,none⟩ (.int .i64 x.id)).setCell ⟨w.heap.size+1,1,none⟩ (.int .i64 x.boot)).setCell ⟨w.heap.size+1,2,none⟩ (.int .i64 x.net.n)).setCell ⟨w.heap.size+1,3,none⟩ (.slice y1 x.net.ls.length y1c)).setCell ⟨w.heap.size+1,4,none⟩ (.slice y2 x.net.ts.length y2c)).setCell ⟨w.heap.size+1,5,none⟩ (.slice y3 x.heard.length y3c)).setCell ⟨w.heap.size+1,6,none⟩ (.slice y4 qs.length y4c)).heap[w.heap.size+1]? = some (.cells #[.int .i64 x.id,.int .i64 x.boot,.int .i64 x.net.n,.slice y1 x.net.ls.length y1c,.slice y2 x.net.ts.length y2c,.slice y3 x.heard.length y3c,.slice y4 qs.length y4c] 31):=by
   have k0:=GA.out;have k1:=heap_setCell_same _ _ 0 _ _ (.int .i64 x.id) k0;have k2:=heap_setCell_same _ _ 1 _ _ (.int .i64 x.boot) k1;have k3:=heap_setCell_same _ _ 2 _ _ (.int .i64 x.net.n) k2;have k4:=heap_setCell_same _ _ 3 _ _ (.slice y1 x.net.ls.length y1c) k3;have k5:=heap_setCell_same _ _ 4 _ _ (.slice y2 x.net.ts.length y2c) k4;have k6:=heap_setCell_same _ _ 5 _ _ (.slice y3 x.heard.length y3c) k5;have k7:=heap_setCell_same _ _ 6 _ _ (.slice y4 qs.length y4c) k6;exact k7
  have hkeep:∀ k,w.heap.size+2<=k->(((((((w4.setCell ⟨w.heap.size+1,0,none⟩ (.int .i64 x.id)).setCell ⟨w.heap.size+1,1,none⟩ (.int .i64 x.boot)).setCell ⟨w.heap.size+1,2,none⟩ (.int .i64 x.net.n)).setCell ⟨w.heap.size+1,3,none⟩ (.slice y1 x.net.ls.length y1c)).setCell ⟨w.heap.size+1,4,none⟩ (.slice y2 x.net.ts.length y2c)).setCell ⟨w.heap.size+1,5,none⟩ (.slice y3 x.heard.length y3c)).setCell ⟨w.heap.size+1,6,none⟩ (.slice y4 qs.length y4c)).heap[k]? = (w4).heap[k]? := fun k hk=>by
   rw [heap_setCell_other _ ⟨w.heap.size+1,6,none⟩ _ _ (by show k≠w.heap.size+1;omega),heap_setCell_other _ ⟨w.heap.size+1,5,none⟩ _ _ (by show k≠w.heap.size+1;omega),heap_setCell_other _ ⟨w.heap.size+1,4,none⟩ _ _ (by show k≠w.heap.size+1;omega),heap_setCell_other _ ⟨w.heap.size+1,3,none⟩ _ _ (by show k≠w.heap.size+1;omega),heap_setCell_other _ ⟨w.heap.size+1,2,none⟩ _ _ (by show k≠w.heap.size+1;omega),heap_setCell_other _ ⟨w.heap.size+1,1,none⟩ _ _ (by show k≠w.heap.size+1;omega),heap_setCell_other _ ⟨w.heap.size+1,0,none⟩ _ _ (by show k≠w.heap.size+1;omega)]
  have hsize:(((((((w4.setCell ⟨w.heap.size+1,0,none⟩ (.int .i64 x.id)).setCell ⟨w.heap.size+1,1,none⟩ (.int .i64 x.boot)).setCell ⟨w.heap.size+1,2,none⟩ (.int .i64 x.net.n)).setCell ⟨w.heap.size+1,3,none⟩ (.slice y1 x.net.ls.length y1c)).setCell ⟨w.heap.size+1,4,none⟩ (.slice y2 x.net.ts.length y2c)).setCell ⟨w.heap.size+1,5,none⟩ (.slice y3 x.heard.length y3c)).setCell ⟨w.heap.size+1,6,none⟩ (.slice y4 qs.length y4c)).heap.size=(w4).heap.size:=by simp
  have hbel:Below w.heap.size w (((((((w4.setCell ⟨w.heap.size+1,0,none⟩ (.int .i64 x.id)).setCell ⟨w.heap.size+1,1,none⟩ (.int .i64 x.boot)).setCell ⟨w.heap.size+1,2,none⟩ (.int .i64 x.net.n)).setCell ⟨w.heap.size+1,3,none⟩ (.slice y1 x.net.ls.length y1c)).setCell ⟨w.heap.size+1,4,none⟩ (.slice y2 x.net.ts.length y2c)).setCell ⟨w.heap.size+1,5,none⟩ (.slice y3 x.heard.length y3c)).setCell ⟨w.heap.size+1,6,none⟩ (.slice y4 qs.length y4c)):=(((((((B4.setCell (by show w.heap.size<=w.heap.size+1;omega) _).setCell (by show w.heap.size<=w.heap.size+1;omega) _).setCell (by show w.heap.size<=w.heap.size+1;omega) _).setCell (by show w.heap.size<=w.heap.size+1;omega) _).setCell (by show w.heap.size<=w.heap.size+1;omega) _).setCell (by show w.heap.size<=w.heap.size+1;omega) _).setCell (by show w.heap.size<=w.heap.size+1;omega) _)
  try simp only [Exit.inBlock,Exit.then]
  refine bodyPost_ret (ZaR rfl _ _ (w.heap.size+1) 31 #[.int .i64 x.id,.int .i64 x.boot,.int .i64 x.net.n,.slice y1 x.net.ls.length y1c,.slice y2 x.net.ts.length y2c,.slice y3 x.heard.length y3c,.slice y4 qs.length y4c] (0,0) _ rfl hfin Tryz.underlying31 rfl (by kernel_rfl)) rfl ?_
  exact⟨_,_,_,_,_,qs,[],m1,m2,rfl,by rw [FQ.out,hSL.out],by rw [hSN.out];rfl,((O4.out.keep (fun k h1 _ _=>hkeep k (by omega))).low (by omega)).high (by rw [hsize];omega),(LIT.out.keep (fun k h1 _ _=>hkeep k (by have:=O3.out.o1;have:=O3.out.o2;omega))).wide (Nat.le_refl _) (by rw [hsize];exact Nat.le_refl _),SEP.out,hbel⟩
 ·have s0:=Zaa g0 0
  have s1:=Zaa g0 1;have s2:=Zaa g0 2;have s3:=Zaa g0 3;have s4:=Zaa g0 4;have s5:=Zaa g0 5;have s6:=Zaa g0 6;simp at s0 s1 s2 s3 s4 s5 s6
  have HST:=hide (ZgX HR.out.symm);have HMG:=hide (Zjl (.slice a4 ps.length a4c) (.slice l5 ts.length c5) ps ts hi w3 (HX.out.below B3 hhi).store (HL.out.below B3 hhi) (by have:=B3.size;omega) (by unfold totS at ht;omega) HST.out)
  have hSL:=hide (show Zc8 x ps ts=(fsts ts).foldl Za7 (fsts ps) by unfold Zc8;rw [<-HR.out];rfl)
  have hSN:=hide (show ZcB x ps ts=Zbu (fsts ps) (fsts ts) by unfold ZcB;rw [<-HR.out];rfl)
  have G1:=hide g1;have GZ:=hide gz;clear g0 g1 gz
  go_wp2_with fail
  refine HMG.out.mono ?_
  rintro e w4 ⟨k4v,n4v,ks,ns,rfl,fk,fn,ok,on,sep,b4⟩;obtain⟨k4,k4c,rfl⟩:=Zac ok.row;obtain⟨n4,n4c,rfl⟩:=Zac on.row;have B4:Below w.heap.size w w4:=B3.trans (b4.mono B3.size);have g1:=(b4.block _ (Zab G1.out)).trans G1.out;have gz:=(b4.block _ (Zab GZ.out)).trans GZ.out;have hs34:=b4.size;clear s0 s1 s2 s3 s4 s5 s6;have r0:=Zaa g1 0;have r1:=Zaa g1 1;have r2:=Zaa g1 2;have r3:=Zaa g1 3;have r4:=Zaa g1 4;have r5:=Zaa g1 5;have r6:=Zaa g1 6;simp at r0 r1 r2 r3 r4 r5 r6
  have t0:=Zaa gz 0;have t1:=Zaa gz 1;have t2:=Zaa gz 2;have t3:=Zaa gz 3;have t4:=Zaa gz 4;have t5:=Zaa gz 5;have t6:=Zaa gz 6;simp at t0 t1 t2 t3 t4 t5 t6
  have fz0x:=Zae g1 0;have fz1x:=Zae g1 1;have fz2x:=Zae g1 2;have fz3x:=Zae g1 3;have fz4x:=Zae g1 4;have fz5x:=Zae g1 5;have fz6x:=Zae g1 6;have fzz:=Zae gz 6;have hlz:w.heap.size+1<w4.heap.size:=Zab g1;have hlz2:z<w4.heap.size:=Zab gz;have hzne:¬z=w.heap.size+1:=by rw [HZZ.out];omega
  have hzne2:¬w.heap.size+1=z:=by rw [HZZ.out];omega
  have OW:=hide (show SelfOwn w4 w0.heap.size w4.heap.size (.slice y1 x.net.ls.length y1c) (.slice y2 x.net.ts.length y2c) (.slice y3 x.heard.length y3c) (.slice k4 ks.length k4c) x ks m1 w3.heap.size from by
   have h:=O3.out.below b4 (by omega)
   exact { o1:=h.o1,o2:=by have:=h.o2;have:=h.o3;omega,o3:=hs34,links:=h.links,ltop:=h.ltop,things:=h.things,ttop:=h.ttop,heard:=h.heard.wide (Nat.le_refl _) (by have:=h.o3;omega),store:=ok })
  have ZLT:=hide (show z<w1.heap.size+1/\w1.heap.size<=z by rw [HZZ.out];omega)
  have ON:=hide on;have FK:=hide fk;have FN:=hide fn;have SEP:=hide sep;have LTZ:=hide (show (∀ k,(Value.slice y1 x.net.ls.length y1c).ownBlock=some k->k≠z)/\(∀ k,(Value.slice y2 x.net.ts.length y2c).ownBlock=some k->k≠z)/\(∀ k,(Value.slice y3 x.heard.length y3c).ownBlock=some k->k≠z) from by
   have h:=O3.out;have h3:=h.o3;have h2:=h.o2;refine⟨fun k e=>?_,fun k e=>?_,fun k e=>?_⟩
   ·have:=h.ltop k e;rw [HZZ.out];omega
   ·have:=h.ttop k e;rw [HZZ.out];omega
   ·have:=h.heard.top k e;rw [HZZ.out];omega)
  have G1B:=hide g1;clear g1 gz fk fn ok on sep b4 G1 GZ HMG
  go_wp2
  have hfin:((((((((w4.setCell ⟨z,6,none⟩ (.slice k4 ks.length k4c)).setCell ⟨w.heap.size+1,0,none⟩ (.int .i64 x.id)).setCell ⟨w.heap.size+1,1,none⟩ (.int .i64 x.boot)).setCell ⟨w.heap.size+1,2,none⟩ (.int .i64 x.net.n)).setCell ⟨w.heap.size+1,3,none⟩ (.slice y1 x.net.ls.length y1c)).setCell ⟨w.heap.size+1,4,none⟩ (.slice y2 x.net.ts.length y2c)).setCell ⟨w.heap.size+1,5,none⟩ (.slice y3 x.heard.length y3c)).setCell ⟨w.heap.size+1,6,none⟩ (.slice k4 ks.length k4c)).heap[w.heap.size+1]? = some (.cells #[.int .i64 x.id,.int .i64 x.boot,.int .i64 x.net.n,.slice y1 x.net.ls.length y1c,.slice y2 x.net.ts.length y2c,.slice y3 x.heard.length y3c,.slice k4 ks.length k4c] 31):=by
   have kk0:(w4.setCell ⟨z,6,none⟩ (.slice k4 ks.length k4c)).heap[w.heap.size+1]? = some (.cells #[.int .i64 0,.int .i64 0,.int .i64 0,.slice none 0 0,.slice none 0 0,.slice none 0 0,.slice none 0 0] 31):=by
    rw [heap_setCell_other _ ⟨z,6,none⟩ _ _ (by show w.heap.size+1≠z;exact hzne2)]
    exact G1B.out
   have kk1:=heap_setCell_same _ _ 0 _ _ (.int .i64 x.id) kk0;have kk2:=heap_setCell_same _ _ 1 _ _ (.int .i64 x.boot) kk1;have kk3:=heap_setCell_same _ _ 2 _ _ (.int .i64 x.net.n) kk2;have kk4:=heap_setCell_same _ _ 3 _ _ (.slice y1 x.net.ls.length y1c) kk3;have kk5:=heap_setCell_same _ _ 4 _ _ (.slice y2 x.net.ts.length y2c) kk4;have kk6:=heap_setCell_same _ _ 5 _ _ (.slice y3 x.heard.length y3c) kk5;have kk7:=heap_setCell_same _ _ 6 _ _ (.slice k4 ks.length k4c) kk6;exact kk7
  have hkeep:∀ k,w.heap.size+2<=k->k≠z->((((((((w4.setCell ⟨z,6,none⟩ (.slice k4 ks.length k4c)).setCell ⟨w.heap.size+1,0,none⟩ (.int .i64 x.id)).setCell ⟨w.heap.size+1,1,none⟩ (.int .i64 x.boot)).setCell ⟨w.heap.size+1,2,none⟩ (.int .i64 x.net.n)).setCell ⟨w.heap.size+1,3,none⟩ (.slice y1 x.net.ls.length y1c)).setCell ⟨w.heap.size+1,4,none⟩ (.slice y2 x.net.ts.length y2c)).setCell ⟨w.heap.size+1,5,none⟩ (.slice y3 x.heard.length y3c)).setCell ⟨w.heap.size+1,6,none⟩ (.slice k4 ks.length k4c)).heap[k]? = w4.heap[k]? := fun k hk hk3=>by
   rw [heap_setCell_other _ ⟨w.heap.size+1,6,none⟩ _ _ (by show k≠w.heap.size+1;omega),heap_setCell_other _ ⟨w.heap.size+1,5,none⟩ _ _ (by show k≠w.heap.size+1;omega),heap_setCell_other _ ⟨w.heap.size+1,4,none⟩ _ _ (by show k≠w.heap.size+1;omega),heap_setCell_other _ ⟨w.heap.size+1,3,none⟩ _ _ (by show k≠w.heap.size+1;omega),heap_setCell_other _ ⟨w.heap.size+1,2,none⟩ _ _ (by show k≠w.heap.size+1;omega),heap_setCell_other _ ⟨w.heap.size+1,1,none⟩ _ _ (by show k≠w.heap.size+1;omega),heap_setCell_other _ ⟨w.heap.size+1,0,none⟩ _ _ (by show k≠w.heap.size+1;omega),heap_setCell_other _ ⟨z,6,none⟩ _ _ (by show k≠z;exact hk3)]
  have hsize:((((((((w4.setCell ⟨z,6,none⟩ (.slice k4 ks.length k4c)).setCell ⟨w.heap.size+1,0,none⟩ (.int .i64 x.id)).setCell ⟨w.heap.size+1,1,none⟩ (.int .i64 x.boot)).setCell ⟨w.heap.size+1,2,none⟩ (.int .i64 x.net.n)).setCell ⟨w.heap.size+1,3,none⟩ (.slice y1 x.net.ls.length y1c)).setCell ⟨w.heap.size+1,4,none⟩ (.slice y2 x.net.ts.length y2c)).setCell ⟨w.heap.size+1,5,none⟩ (.slice y3 x.heard.length y3c)).setCell ⟨w.heap.size+1,6,none⟩ (.slice k4 ks.length k4c)).heap.size=w4.heap.size:=by simp
  have hbel:Below w.heap.size w ((((((((w4.setCell ⟨z,6,none⟩ (.slice k4 ks.length k4c)).setCell ⟨w.heap.size+1,0,none⟩ (.int .i64 x.id)).setCell ⟨w.heap.size+1,1,none⟩ (.int .i64 x.boot)).setCell ⟨w.heap.size+1,2,none⟩ (.int .i64 x.net.n)).setCell ⟨w.heap.size+1,3,none⟩ (.slice y1 x.net.ls.length y1c)).setCell ⟨w.heap.size+1,4,none⟩ (.slice y2 x.net.ts.length y2c)).setCell ⟨w.heap.size+1,5,none⟩ (.slice y3 x.heard.length y3c)).setCell ⟨w.heap.size+1,6,none⟩ (.slice k4 ks.length k4c)):=((((((((B4.setCell (by show w.heap.size<=z;rw [HZZ.out];omega) _).setCell (by show w.heap.size<=w.heap.size+1;omega) _).setCell (by show w.heap.size<=w.heap.size+1;omega) _).setCell (by show w.heap.size<=w.heap.size+1;omega) _).setCell (by show w.heap.size<=w.heap.size+1;omega) _).setCell (by show w.heap.size<=w.heap.size+1;omega) _).setCell (by show w.heap.size<=w.heap.size+1;omega) _).setCell (by show w.heap.size<=w.heap.size+1;omega) _)
  try simp only [Exit.inBlock,Exit.then]
  refine bodyPost_ret (ZaR rfl _ _ (w.heap.size+1) 31 #[.int .i64 x.id,.int .i64 x.boot,.int .i64 x.net.n,.slice y1 x.net.ls.length y1c,.slice y2 x.net.ts.length y2c,.slice y3 x.heard.length y3c,.slice k4 ks.length k4c] (0,0) _ rfl hfin Tryz.underlying31 rfl (by kernel_rfl)) rfl ?_
  have zlt:=ZLT.out;have fin1:SelfOwn ((((((((w4.setCell ⟨z,6,none⟩ (.slice k4 ks.length k4c)).setCell ⟨w.heap.size+1,0,none⟩ (.int .i64 x.id)).setCell ⟨w.heap.size+1,1,none⟩ (.int .i64 x.boot)).setCell ⟨w.heap.size+1,2,none⟩ (.int .i64 x.net.n)).setCell ⟨w.heap.size+1,3,none⟩ (.slice y1 x.net.ls.length y1c)).setCell ⟨w.heap.size+1,4,none⟩ (.slice y2 x.net.ts.length y2c)).setCell ⟨w.heap.size+1,5,none⟩ (.slice y3 x.heard.length y3c)).setCell ⟨w.heap.size+1,6,none⟩ (.slice k4 ks.length k4c)) w0.heap.size w4.heap.size (.slice y1 x.net.ls.length y1c) (.slice y2 x.net.ts.length y2c) (.slice y3 x.heard.length y3c) (.slice k4 ks.length k4c) x ks m1 w3.heap.size:=by
   have h:=OW.out;exact⟨h.o1,h.o2,h.o3,Zam h.links (fun k e=>hkeep k (by have:=(h.links.lt k e).1;omega) (LTZ.out.1 k e)),h.ltop,Zam h.things (fun k e=>hkeep k (by have:=(h.things.lt k e).1;omega) (LTZ.out.2.1 k e)),h.ttop,⟨Zam h.heard.row (fun k e=>hkeep k (by have:=(h.heard.row.lt k e).1;have:=h.o1;omega) (LTZ.out.2.2 k e)),h.heard.top⟩,h.store.keep (fun k h1 _ _=>hkeep k (by omega) (by omega))⟩
  exact⟨_,_,_,_,_,ks,ns,m1,w3.heap.size,rfl,by rw [FK.out,hSL.out],by rw [FN.out,hSN.out],(fin1.low (by omega)).high (by rw [hsize];omega),(ON.out.keep (fun k h1 _ _=>hkeep k (by omega) (by omega))).wide (Nat.le_refl _) (by rw [hsize];omega),SEP.out,hbel⟩
theorem Zhi (v1 v2 v3 v4:Value)(x:SelfD)(ps:List RP)(hi:Nat)(w:World)(hv:SelfSrc w hi v1 v2 v3 v4 x ps)(hhi:hi<=w.heap.size)(ht:totS x ps<=1048576):
  Calls Tryz.prog 30 #[ZdL x v1 v2 v3 v4] w fun e w'=>Zgp w w' x ps e:=by
 obtain⟨⟨a1,c1,rfl⟩,⟨a2,c2,rfl⟩,⟨a3,c3,rfl⟩,⟨a4,c4,rfl⟩⟩:=hv.in.shapes;have hlL:x.net.ls.length<=1048576:=by unfold totS at ht;omega
 have hlT:x.net.ts.length<=1048576:=by unfold totS at ht;omega
 have hlH:x.heard.length<=1048576:=by unfold totS at ht;omega
 have hlR:tot ps<=1048576:=by unfold totS at ht;omega
 have HX:=hide hv;clear hv ht;unfold Zgp;have B0:Below w.heap.size w ((w.alloc (.cells #[.int .i64 x.id,.int .i64 x.boot,.int .i64 x.net.n,.slice a1 x.net.ls.length c1,.slice a2 x.net.ts.length c2,.slice a3 x.heard.length c3,.slice a4 ps.length c4] 31)).alloc (.cells #[.int .i64 0,.int .i64 0,.int .i64 0,.slice none 0 0,.slice none 0 0,.slice none 0 0,.slice none 0 0] 31)):=((Below.refl w.heap.size w).alloc (Nat.le_refl _) _).alloc (by simp) _
 have q0:((w.alloc (.cells #[.int .i64 x.id,.int .i64 x.boot,.int .i64 x.net.n,.slice a1 x.net.ls.length c1,.slice a2 x.net.ts.length c2,.slice a3 x.heard.length c3,.slice a4 ps.length c4] 31)).alloc (.cells #[.int .i64 0,.int .i64 0,.int .i64 0,.slice none 0 0,.slice none 0 0,.slice none 0 0,.slice none 0 0] 31)).heap[w.heap.size]? = some (.cells #[.int .i64 x.id,.int .i64 x.boot,.int .i64 x.net.n,.slice a1 x.net.ls.length c1,.slice a2 x.net.ts.length c2,.slice a3 x.heard.length c3,.slice a4 ps.length c4] 31):=by rw [Below.heap_alloc _ _ _ (by simp),heap_alloc_new]
 have q1:((w.alloc (.cells #[.int .i64 x.id,.int .i64 x.boot,.int .i64 x.net.n,.slice a1 x.net.ls.length c1,.slice a2 x.net.ts.length c2,.slice a3 x.heard.length c3,.slice a4 ps.length c4] 31)).alloc (.cells #[.int .i64 0,.int .i64 0,.int .i64 0,.slice none 0 0,.slice none 0 0,.slice none 0 0,.slice none 0 0] 31)).heap[w.heap.size+1]? = some (.cells #[.int .i64 0,.int .i64 0,.int .i64 0,.slice none 0 0,.slice none 0 0,.slice none 0 0,.slice none 0 0] 31):=by
  have h:=heap_alloc_new (w.alloc (.cells #[.int .i64 x.id,.int .i64 x.boot,.int .i64 x.net.n,.slice a1 x.net.ls.length c1,.slice a2 x.net.ts.length c2,.slice a3 x.heard.length c3,.slice a4 ps.length c4] 31)) (.cells #[.int .i64 0,.int .i64 0,.int .i64 0,.slice none 0 0,.slice none 0 0,.slice none 0 0,.slice none 0 0] 31)
  simpa using h
 have z0:((w.alloc (.cells #[.int .i64 x.id,.int .i64 x.boot,.int .i64 x.net.n,.slice a1 x.net.ls.length c1,.slice a2 x.net.ts.length c2,.slice a3 x.heard.length c3,.slice a4 ps.length c4] 31)).alloc (.cells #[.int .i64 0,.int .i64 0,.int .i64 0,.slice none 0 0,.slice none 0 0,.slice none 0 0,.slice none 0 0] 31)).heap.size=w.heap.size+2:=by simp
 have Q0:=hide q0;have Q1:=hide q1;have Z0:=hide z0;clear q0 q1 z0
 go_enter Tryz.func30,Tryz.ntmps30
 go_wp2_with fail
 obtain⟨w1,hw1⟩:∃ W,W=((w.alloc (.cells #[.int .i64 x.id,.int .i64 x.boot,.int .i64 x.net.n,.slice a1 x.net.ls.length c1,.slice a2 x.net.ts.length c2,.slice a3 x.heard.length c3,.slice a4 ps.length c4] 31)).alloc (.cells #[.int .i64 0,.int .i64 0,.int .i64 0,.slice none 0 0,.slice none 0 0,.slice none 0 0,.slice none 0 0] 31)):=⟨_,rfl⟩;rw [<-hw1] at B0 Q0 Q1 Z0 |-;clear hw1;have k2:=Zaa Q0.out 2;simp at k2
 have kk:w1.drew.cell? ⟨w.heap.size,2,none⟩=some (.int .i64 x.net.n):=k2;refine wp_region_noPanic ?_
 refine Zai (S:=(fun W=>W.cell? ⟨w.heap.size,2,none⟩=some (.int .i64 x.net.n))) (by kernel_rfl) 16 rfl kk (fun ops hops hHeld=>?_)
 iterate 3
  refine Zao 16 ?_ ?_ ?_ (by rw [hops.out];kernel_rfl) ?_ ?_ (by assumption) ?_
  rotate_left 2
  ·rw [hops.out];simp only [getS,Nat.reduceSub,Nat.reduceAdd];rfl
  ·intro W hW;(try dsimp only at hW);go_simp <;> with_reducible rfl
  ·exact fun _ _ _=>id
  try simp only [putS]
 refine Zay 4 ?_ ?_ ?_ (by rw [hops.out];kernel_rfl) ?_ ?_ (by assumption) ?_
 rotate_left 2
 ·rw [hops.out];simp only [getS];rfl
 ·intro W hW;(try dsimp only at hW);go_simp <;> with_reducible rfl
 ·exact fun _ _ _=>id
 try simp only [putS]
 refine Zay 5 ?_ ?_ ?_ (by rw [hops.out];kernel_rfl) ?_ ?_ (by assumption) ?_
 rotate_left 2
 ·rw [hops.out];simp only [getS];rfl
 ·intro W hW;(try dsimp only at hW);go_simp <;> with_reducible rfl
 ·exact fun _ _ _=>id
 try simp only [putS]
 refine Zay 9 ?_ ?_ ?_ (by rw [hops.out];kernel_rfl) ?_ ?_ (by assumption) ?_
 rotate_left 2
 ·rw [hops.out];simp only [getS];rfl
 ·intro W hW;(try dsimp only at hW);go_simp <;> with_reducible rfl
 ·exact fun _ _ _=>id
 try simp only [putS]
 refine Zay 10 ?_ ?_ ?_ (by rw [hops.out];kernel_rfl) ?_ ?_ (by assumption) ?_
 rotate_left 2
 ·rw [hops.out];simp only [getS];rfl
 ·intro W hW;(try dsimp only at hW);go_simp <;> with_reducible rfl
 ·exact fun _ _ _=>id
 try simp only [putS]
 have BD:Below w.heap.size w w1.drew:=B0.drew;have hw1s:=Zab Q1.out;have hdr:w1.drew.heap.size=w1.heap.size:=rfl;refine lc_dag x.net.n x.net.ls x.net.ts a1 a2 c1 c2 w.heap.size w1.heap.size w1.drew _ _ ops hops (Nat.le_refl _) hlL hlT ?_ ?_ (.int .i64 x.id) (.int .i64 x.boot) (.slice a3 x.heard.length c3) (.slice a4 ps.length c4) ?_ ?_ ?_ ?_
 ·intro W hb
  exact (hb.cell (by show w.heap.size<w1.heap.size;omega)).trans kk
 ·intro W hb u1 u2
  have h0:=(hb.block w.heap.size (by omega)).trans Q0.out
  have h1:=heap_setCell_same _ _ 2 _ _ (.int .i64 x.net.n) h0;have h2:=heap_setCell_same _ _ 3 _ _ u1 h1;have h3:=heap_setCell_same _ _ 4 _ _ u2 h2;have h4:=Zaa h3 2
  simpa using h4
 ·intro W hb
  exact (hb.block w.heap.size (by omega)).trans Q0.out
 ·intro W hb
  exact (HX.out.below (BD.trans (hb.mono (by omega))) hhi).links
 ·intro W hb
  exact (HX.out.below (BD.trans (hb.mono (by omega))) hhi).things
 intro W G1 G2 p1a p2a p1c p2c hb hbs r1 r2;clear hops ops hHeld kk;have BW:Below w.heap.size w W:=BD.trans (hb.mono (by omega))
 have x0:=(hb.block w.heap.size (by omega)).trans Q0.out
 have x1:=(hb.block (w.heap.size+1) (by omega)).trans Q1.out
 have B3:Below w.heap.size w (((W.setCell ⟨w.heap.size,2,none⟩ (.int .i64 x.net.n)).setCell ⟨w.heap.size,3,none⟩ (.slice p1a x.net.ls.length p1c)).setCell ⟨w.heap.size,4,none⟩ (.slice p2a x.net.ts.length p2c)):=((BW.setCell (Nat.le_refl _) _).setCell (Nat.le_refl _) _).setCell (Nat.le_refl _) _;have y0:(((W.setCell ⟨w.heap.size,2,none⟩ (.int .i64 x.net.n)).setCell ⟨w.heap.size,3,none⟩ (.slice p1a x.net.ls.length p1c)).setCell ⟨w.heap.size,4,none⟩ (.slice p2a x.net.ts.length p2c)).heap[w.heap.size]? = some (.cells #[.int .i64 x.id,.int .i64 x.boot,.int .i64 x.net.n,.slice p1a x.net.ls.length p1c,.slice p2a x.net.ts.length p2c,.slice a3 x.heard.length c3,.slice a4 ps.length c4] 31):=by
  have h1:=heap_setCell_same _ _ 2 _ _ (.int .i64 x.net.n) x0;have h2:=heap_setCell_same _ _ 3 _ _ (.slice p1a x.net.ls.length p1c) h1;exact heap_setCell_same _ _ 4 _ _ (.slice p2a x.net.ts.length p2c) h2
 have y1:(((W.setCell ⟨w.heap.size,2,none⟩ (.int .i64 x.net.n)).setCell ⟨w.heap.size,3,none⟩ (.slice p1a x.net.ls.length p1c)).setCell ⟨w.heap.size,4,none⟩ (.slice p2a x.net.ts.length p2c)).heap[w.heap.size+1]? = some (.cells #[.int .i64 0,.int .i64 0,.int .i64 0,.slice none 0 0,.slice none 0 0,.slice none 0 0,.slice none 0 0] 31):=by
  rw [heap_setCell_other _ ⟨w.heap.size,4,none⟩ _ _ (by show w.heap.size+1≠w.heap.size;omega),heap_setCell_other _ ⟨w.heap.size,3,none⟩ _ _ (by show w.heap.size+1≠w.heap.size;omega),heap_setCell_other _ ⟨w.heap.size,2,none⟩ _ _ (by show w.heap.size+1≠w.heap.size;omega)]
  exact x1
 have s1:=Zau (p:=w.heap.size) (j:=4) (u:=.slice p2a x.net.ts.length p2c) (Zau (p:=w.heap.size) (j:=3) (u:=.slice p1a x.net.ls.length p1c) (Zau (p:=w.heap.size) (j:=2) (u:=.int .i64 x.net.n) r1 (by omega)) (by omega)) (by omega)
 have s2:=Zau (p:=w.heap.size) (j:=4) (u:=.slice p2a x.net.ts.length p2c) (Zau (p:=w.heap.size) (j:=3) (u:=.slice p1a x.net.ls.length p1c) (Zau (p:=w.heap.size) (j:=2) (u:=.int .i64 x.net.n) r2 (by omega)) (by omega)) (by omega)
 have hsz3:w1.heap.size<=(((W.setCell ⟨w.heap.size,2,none⟩ (.int .i64 x.net.n)).setCell ⟨w.heap.size,3,none⟩ (.slice p1a x.net.ls.length p1c)).setCell ⟨w.heap.size,4,none⟩ (.slice p2a x.net.ts.length p2c)).heap.size:=by simp;exact hbs
 generalize (((W.setCell ⟨w.heap.size,2,none⟩ (.int .i64 x.net.n)).setCell ⟨w.heap.size,3,none⟩ (.slice p1a x.net.ls.length p1c)).setCell ⟨w.heap.size,4,none⟩ (.slice p2a x.net.ts.length p2c))=w3 at *;have hw3s:=Zab y1;have hw3t:w.heap.size<w3.heap.size:=by omega
 have hw3n:¬w.heap.size=w3.heap.size:=by omega
 have t5:=Zaa y0 5;simp at t5
 have BL:Below w3.heap.size w3 (w3.alloc (.cells #[] 3)):=(Below.refl _ _).alloc (Nat.le_refl _) _;have B4:Below w.heap.size w (w3.alloc (.cells #[] 3)):=B3.trans (BL.mono (by omega))
 have R1:=hide s1;have R2:=hide s2;have Y0:=hide y0;have Y1:=hide y1;clear r1 r2 s1 s2 x0 x1 y0 y1 k2 hb hbs BW
 go_wp2_with (first | (at_builtin;refine ZbG ZdZ (by omega) Zc0 (by omega) _ rfl _ _ 28 rfl w3.heap.size 3 Tryz.underlying28 (.int .i64 0) rfl Tryz.info3 _ [] rfl ?own0 0 _ x.heard rfl (HX.out.below B4 hhi).heard (by simp;omega) (by simp) ?_))
 case own0=>exact World.ownsRow_lit w3 #[] 0 (Nat.le_refl _) (by unfold maxLen;omega) (by simp)
 intro v3' wA ho3 gr3;obtain⟨p3a,p3c,rfl⟩:=Zac ho3;simp only [Value.ownBlock,List.nil_append] at gr3 ho3
 try simp only [List.nil_append]
 have hgs:=gr3.size;simp at hgs
 have bA:Below w.heap.size w wA:=B4.grown gr3 (by simp;omega) (fun k hk=>by simp at hk;omega)
 have x0:=(gr3.block w.heap.size (by simp;omega) (by simp;omega)).trans ((BL.block _ (Zab Y0.out)).trans Y0.out)
 have x1:=(gr3.block (w.heap.size+1) (by simp;omega) (by simp;omega)).trans ((BL.block _ (Zab Y1.out)).trans Y1.out)
 have r1:=Zam (W':=wA) R1.out (fun k hk=>(gr3.block k (by have:=(R1.out.lt k hk).2;simp;omega) (by have:=(R1.out.lt k hk).2;simp;omega)).trans (BL.block k (R1.out.lt k hk).2))
 have r2:=Zam (W':=wA) R2.out (fun k hk=>(gr3.block k (by have:=(R2.out.lt k hk).2;simp;omega) (by have:=(R2.out.lt k hk).2;simp;omega)).trans (BL.block k (R2.out.lt k hk).2))
 have fz:=Zae x0 5;clear t5;have t5:=Zaa x0 5;have t6:=Zaa x0 6;simp at t5 t6
 have B5:Below w.heap.size w (wA.setCell ⟨w.heap.size,5,none⟩ (.slice p3a x.heard.length p3c)):=bA.setCell (Nat.le_refl _) _;have y0:(wA.setCell ⟨w.heap.size,5,none⟩ (.slice p3a x.heard.length p3c)).heap[w.heap.size]? = some (.cells #[.int .i64 x.id,.int .i64 x.boot,.int .i64 x.net.n,.slice p1a x.net.ls.length p1c,.slice p2a x.net.ts.length p2c,.slice p3a x.heard.length p3c,.slice a4 ps.length c4] 31):=heap_setCell_same _ _ 5 _ _ (.slice p3a x.heard.length p3c) x0;have y1:(wA.setCell ⟨w.heap.size,5,none⟩ (.slice p3a x.heard.length p3c)).heap[w.heap.size+1]? = some (.cells #[.int .i64 0,.int .i64 0,.int .i64 0,.slice none 0 0,.slice none 0 0,.slice none 0 0,.slice none 0 0] 31):=by rw [heap_setCell_other _ ⟨w.heap.size,5,none⟩ _ _ (by show w.heap.size+1≠w.heap.size;omega)];exact x1
 have L1:=hide (show ∀ k,(Value.slice p1a x.net.ls.length p1c).ownBlock=some k->k<w3.heap.size from fun k hk=>(R1.out.lt k hk).2)
 have L2:=hide (show ∀ k,(Value.slice p2a x.net.ts.length p2c).ownBlock=some k->k<w3.heap.size from fun k hk=>(R2.out.lt k hk).2)
 have S1:=hide (Zau (p:=w.heap.size) (j:=5) (u:=.slice p3a x.heard.length p3c) r1 (by omega))
 have S2:=hide (Zau (p:=w.heap.size) (j:=5) (u:=.slice p3a x.heard.length p3c) r2 (by omega))
 have S3:=hide (Zau (p:=w.heap.size) (j:=5) (u:=.slice p3a x.heard.length p3c) ho3 (by omega))
 have zz:(wA.setCell ⟨w.heap.size,5,none⟩ (.slice p3a x.heard.length p3c)).heap.size=wA.heap.size:=by simp
 have HCL:=hide (ZcA (.slice a4 ps.length c4) ps hi (wA.setCell ⟨w.heap.size,5,none⟩ (.slice p3a x.heard.length p3c)) (HX.out.store.below B5 hhi) (by have:=B5.size;omega) hlR)
 have Q03:=hide y0;have Q13:=hide y1;clear x0 x1 r1 r2 ho3 gr3 y0 y1 R1 R2 Y0 Y1
 go_wp2_with fail
 obtain⟨wS,hwS⟩:∃ W,W=(wA.setCell ⟨w.heap.size,5,none⟩ (.slice p3a x.heard.length p3c)):=⟨_,rfl⟩;rw [<-hwS] at B5 zz Q03 Q13 HCL S1 S2 S3 |-;clear hwS;refine HCL.out.mono ?_
 rintro e w6 ⟨p4,qs,rfl,fq,ho4,b6⟩;obtain⟨p4a,p4c,rfl⟩:=Zac ho4.row;have hz6:=b6.size;have bs3:=B5.size;have bw6:Below w.heap.size w w6:=B5.trans (b6.mono B5.size);have q2:=(b6.block _ (Zab Q03.out)).trans Q03.out;have q1:=(b6.block _ (Zab Q13.out)).trans Q13.out;have hl6:=Zab q1;have OW:=hide (show SelfOwn w6 w1.heap.size w6.heap.size (.slice p1a x.net.ls.length p1c) (.slice p2a x.net.ts.length p2c) (.slice p3a x.heard.length p3c) (.slice p4a qs.length p4c) x qs w3.heap.size wS.heap.size from
  {o1:=hsz3
   o2:=by omega
   o3:=hz6
   links:=Zah S1.out b6 (Nat.le_refl _)
   ltop:=L1.out
   things:=Zah S2.out b6 (Nat.le_refl _)
   ttop:=L2.out
   heard:=⟨Zah S3.out b6 (Nat.le_refl _),fun k e=>(S3.out.lt k e).2⟩
   store:=ho4 })
 have FQ:=hide fq;clear t5 t6;have r0:=Zaa q1 0;have r1:=Zaa q1 1;have r2:=Zaa q1 2;have r3:=Zaa q1 3;have r4:=Zaa q1 4;have r5:=Zaa q1 5;have r6:=Zaa q1 6;simp at r0 r1 r2 r3 r4 r5 r6
 have t0:=Zaa q2 0;have t1:=Zaa q2 1;have t2:=Zaa q2 2;have t3:=Zaa q2 3;have t4:=Zaa q2 4;have t5:=Zaa q2 5;have t6:=Zaa q2 6;simp at t0 t1 t2 t3 t4 t5 t6
 have fz0x:=Zae q1 0;have fz1x:=Zae q1 1;have fz2x:=Zae q1 2;have fz3x:=Zae q1 3;have fz4x:=Zae q1 4;have fz5x:=Zae q1 5;have fz6x:=Zae q1 6;have e6:=Zae q2 6;have QQ1:=hide q1;clear ho4 q1 q2 fq
 go_wp2
 have hfin:((((((((w6.setCell ⟨w.heap.size,6,none⟩ (.slice p4a qs.length p4c)).setCell ⟨w.heap.size+1,0,none⟩ (.int .i64 x.id)).setCell ⟨w.heap.size+1,1,none⟩ (.int .i64 x.boot)).setCell ⟨w.heap.size+1,2,none⟩ (.int .i64 x.net.n)).setCell ⟨w.heap.size+1,3,none⟩ (.slice p1a x.net.ls.length p1c)).setCell ⟨w.heap.size+1,4,none⟩ (.slice p2a x.net.ts.length p2c)).setCell ⟨w.heap.size+1,5,none⟩ (.slice p3a x.heard.length p3c)).setCell ⟨w.heap.size+1,6,none⟩ (.slice p4a qs.length p4c)).heap[w.heap.size+1]? = some (.cells #[.int .i64 x.id,.int .i64 x.boot,.int .i64 x.net.n,.slice p1a x.net.ls.length p1c,.slice p2a x.net.ts.length p2c,.slice p3a x.heard.length p3c,.slice p4a qs.length p4c] 31):=by
  have k0:(w6.setCell ⟨w.heap.size,6,none⟩ (.slice p4a qs.length p4c)).heap[w.heap.size+1]? = some (.cells #[.int .i64 0,.int .i64 0,.int .i64 0,.slice none 0 0,.slice none 0 0,.slice none 0 0,.slice none 0 0] 31):=by
   rw [heap_setCell_other _ ⟨w.heap.size,6,none⟩ _ _ (by show w.heap.size+1≠w.heap.size;omega)]
   exact QQ1.out
  have k1:=heap_setCell_same _ _ 0 _ _ (.int .i64 x.id) k0;have k2:=heap_setCell_same _ _ 1 _ _ (.int .i64 x.boot) k1;have k3:=heap_setCell_same _ _ 2 _ _ (.int .i64 x.net.n) k2;have k4:=heap_setCell_same _ _ 3 _ _ (.slice p1a x.net.ls.length p1c) k3;have k5:=heap_setCell_same _ _ 4 _ _ (.slice p2a x.net.ts.length p2c) k4;have k6:=heap_setCell_same _ _ 5 _ _ (.slice p3a x.heard.length p3c) k5;have k7:=heap_setCell_same _ _ 6 _ _ (.slice p4a qs.length p4c) k6;exact k7
 have hkeep:∀ k,w.heap.size+2<=k->((((((((w6.setCell ⟨w.heap.size,6,none⟩ (.slice p4a qs.length p4c)).setCell ⟨w.heap.size+1,0,none⟩ (.int .i64 x.id)).setCell ⟨w.heap.size+1,1,none⟩ (.int .i64 x.boot)).setCell ⟨w.heap.size+1,2,none⟩ (.int .i64 x.net.n)).setCell ⟨w.heap.size+1,3,none⟩ (.slice p1a x.net.ls.length p1c)).setCell ⟨w.heap.size+1,4,none⟩ (.slice p2a x.net.ts.length p2c)).setCell ⟨w.heap.size+1,5,none⟩ (.slice p3a x.heard.length p3c)).setCell ⟨w.heap.size+1,6,none⟩ (.slice p4a qs.length p4c)).heap[k]? = w6.heap[k]? := fun k hk=>by
  rw [heap_setCell_other _ ⟨w.heap.size+1,6,none⟩ _ _ (by show k≠w.heap.size+1;omega),heap_setCell_other _ ⟨w.heap.size+1,5,none⟩ _ _ (by show k≠w.heap.size+1;omega),heap_setCell_other _ ⟨w.heap.size+1,4,none⟩ _ _ (by show k≠w.heap.size+1;omega),heap_setCell_other _ ⟨w.heap.size+1,3,none⟩ _ _ (by show k≠w.heap.size+1;omega),heap_setCell_other _ ⟨w.heap.size+1,2,none⟩ _ _ (by show k≠w.heap.size+1;omega),heap_setCell_other _ ⟨w.heap.size+1,1,none⟩ _ _ (by show k≠w.heap.size+1;omega),heap_setCell_other _ ⟨w.heap.size+1,0,none⟩ _ _ (by show k≠w.heap.size+1;omega),heap_setCell_other _ ⟨w.heap.size,6,none⟩ _ _ (by show k≠w.heap.size;omega)]
 have hsize:((((((((w6.setCell ⟨w.heap.size,6,none⟩ (.slice p4a qs.length p4c)).setCell ⟨w.heap.size+1,0,none⟩ (.int .i64 x.id)).setCell ⟨w.heap.size+1,1,none⟩ (.int .i64 x.boot)).setCell ⟨w.heap.size+1,2,none⟩ (.int .i64 x.net.n)).setCell ⟨w.heap.size+1,3,none⟩ (.slice p1a x.net.ls.length p1c)).setCell ⟨w.heap.size+1,4,none⟩ (.slice p2a x.net.ts.length p2c)).setCell ⟨w.heap.size+1,5,none⟩ (.slice p3a x.heard.length p3c)).setCell ⟨w.heap.size+1,6,none⟩ (.slice p4a qs.length p4c)).heap.size=w6.heap.size:=by simp
 have hbel:Below w.heap.size w ((((((((w6.setCell ⟨w.heap.size,6,none⟩ (.slice p4a qs.length p4c)).setCell ⟨w.heap.size+1,0,none⟩ (.int .i64 x.id)).setCell ⟨w.heap.size+1,1,none⟩ (.int .i64 x.boot)).setCell ⟨w.heap.size+1,2,none⟩ (.int .i64 x.net.n)).setCell ⟨w.heap.size+1,3,none⟩ (.slice p1a x.net.ls.length p1c)).setCell ⟨w.heap.size+1,4,none⟩ (.slice p2a x.net.ts.length p2c)).setCell ⟨w.heap.size+1,5,none⟩ (.slice p3a x.heard.length p3c)).setCell ⟨w.heap.size+1,6,none⟩ (.slice p4a qs.length p4c)):=((((((((bw6.setCell (by show w.heap.size<=w.heap.size;omega) _).setCell (by show w.heap.size<=w.heap.size+1;omega) _).setCell (by show w.heap.size<=w.heap.size+1;omega) _).setCell (by show w.heap.size<=w.heap.size+1;omega) _).setCell (by show w.heap.size<=w.heap.size+1;omega) _).setCell (by show w.heap.size<=w.heap.size+1;omega) _).setCell (by show w.heap.size<=w.heap.size+1;omega) _).setCell (by show w.heap.size<=w.heap.size+1;omega) _)
 try simp only [Exit.inBlock,Exit.then]
 refine bodyPost_ret (results_cell_row rfl _ _ (w.heap.size+1) 31 #[.int .i64 x.id,.int .i64 x.boot,.int .i64 x.net.n,.slice p1a x.net.ls.length p1c,.slice p2a x.net.ts.length p2c,.slice p3a x.heard.length p3c,.slice p4a qs.length p4c] (0,0) _ rfl hfin Tryz.underlying31 rfl (by kernel_rfl)) rfl ?_
 exact⟨_,_,_,_,qs,_,_,rfl,FQ.out,((OW.out.keep (fun k h1 _ _=>hkeep k (by omega))).low (by omega)).high (by rw [hsize];omega),hbel⟩
end Go.Proofs.YtcimbiinljcifaaGreat
