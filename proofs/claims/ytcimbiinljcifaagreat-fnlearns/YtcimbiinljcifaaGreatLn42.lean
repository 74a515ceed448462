/-
  LearnS
-/
import Derived.Test.YtcimbiinljcifaaGreatLn39
import Derived.Test.YtcimbiinljcifaaGreatLn41
import Derived.Test.YtcimbiinljcifaaGreatLn18
namespace Go.Proofs.YtcimbiinljcifaaGreat
open Go.RowKit
set_option linter.unusedSimpArgs false
set_option linter.unusedVariables false
set_option maxRecDepth 100000
set_option maxHeartbeats 8000000
theorem ZeB {W W':World}{hi hi':Nat}{v:Value}{ps:List RP}(h:RecsIn W hi v ps)(hh:hi<=hi')(hr:∀ k,v.ownBlock=some k->W'.heap[k]? = W.heap[k]?)(hn:∀ p∈ps,∀ k,p.2.ownBlock=some k->W'.heap[k]? = W.heap[k]?):RecsIn W' hi' v ps:=
 ⟨Zam h.row hr,fun k e=>Nat.lt_of_lt_of_le (h.top k e) hh,fun p hp=>⟨Zam (h.nears p hp).1 (hn p hp),fun k e=>Nat.lt_of_lt_of_le ((h.nears p hp).2 k e) hh⟩⟩
theorem ZjE (v1 v2 v3 v4 v5:Value)(x:SelfD)(ps ts:List RP)(hi:Nat)(w:World)(hv:SelfSrc w hi v1 v2 v3 v4 x ps)(hl:RecsIn w hi v5 ts)(hhi:hi<=w.heap.size)(ht:totS x ps+tot ts<=1048576):
  Calls Tryz.prog 9 #[ZdL x v1 v2 v3 v4,v5] w fun e w'=>∃ u1 u2 u3 u4 u5 qs ns m1 m2,e=.returned (.tuple #[ZdL x u1 u2 u3 u4,u5])/\fsts qs=Zc8 x ps ts/\fsts ns=ZcB x ps ts/\SelfOwn w' w.heap.size w'.heap.size u1 u2 u3 u4 x qs m1 m2/\RecsOwn w' w.heap.size w'.heap.size u5 ns/\Below w.heap.size w w':=by
 obtain⟨⟨a1,a1c,rfl⟩,⟨a2,a2c,rfl⟩,⟨a3,a3c,rfl⟩,⟨a4,a4c,rfl⟩⟩:=hv.in.shapes;obtain⟨l5,c5,rfl⟩:=Zac hl.row;have HX:=hide hv;have HL:=hide hl;clear hv hl;have B0:Below w.heap.size w ((w.alloc (.cells #[.int .i64 x.id,.int .i64 x.boot,.int .i64 x.net.n,.slice a1 x.net.ls.length a1c,.slice a2 x.net.ts.length a2c,.slice a3 x.heard.length a3c,.slice a4 ps.length a4c] 31)).alloc (.cells #[.int .i64 0,.int .i64 0,.int .i64 0,.slice none 0 0,.slice none 0 0,.slice none 0 0,.slice none 0 0] 31)):=((Below.refl w.heap.size w).alloc (Nat.le_refl _) _).alloc (by simp) _
 have q0:((w.alloc (.cells #[.int .i64 x.id,.int .i64 x.boot,.int .i64 x.net.n,.slice a1 x.net.ls.length a1c,.slice a2 x.net.ts.length a2c,.slice a3 x.heard.length a3c,.slice a4 ps.length a4c] 31)).alloc (.cells #[.int .i64 0,.int .i64 0,.int .i64 0,.slice none 0 0,.slice none 0 0,.slice none 0 0,.slice none 0 0] 31)).heap[w.heap.size]? = some (.cells #[.int .i64 x.id,.int .i64 x.boot,.int .i64 x.net.n,.slice a1 x.net.ls.length a1c,.slice a2 x.net.ts.length a2c,.slice a3 x.heard.length a3c,.slice a4 ps.length a4c] 31):=by rw [Below.heap_alloc _ _ _ (by simp),heap_alloc_new]
 have q1:((w.alloc (.cells #[.int .i64 x.id,.int .i64 x.boot,.int .i64 x.net.n,.slice a1 x.net.ls.length a1c,.slice a2 x.net.ts.length a2c,.slice a3 x.heard.length a3c,.slice a4 ps.length a4c] 31)).alloc (.cells #[.int .i64 0,.int .i64 0,.int .i64 0,.slice none 0 0,.slice none 0 0,.slice none 0 0,.slice none 0 0] 31)).heap[w.heap.size+1]? = some (.cells #[.int .i64 0,.int .i64 0,.int .i64 0,.slice none 0 0,.slice none 0 0,.slice none 0 0,.slice none 0 0] 31):=by
  have h:=heap_alloc_new (w.alloc (.cells #[.int .i64 x.id,.int .i64 x.boot,.int .i64 x.net.n,.slice a1 x.net.ls.length a1c,.slice a2 x.net.ts.length a2c,.slice a3 x.heard.length a3c,.slice a4 ps.length a4c] 31)) (.cells #[.int .i64 0,.int .i64 0,.int .i64 0,.slice none 0 0,.slice none 0 0,.slice none 0 0,.slice none 0 0] 31)
  simpa using h
 have HOS:=hide (Zhi _ _ _ _ x ps hi _ (HX.out.below B0 hhi) (by have:=B0.size;omega) (by omega))
 have Q0:=hide q0;have Q1:=hide q1;clear q0 q1;obtain⟨R,hR⟩:∃ R,R=ZcE x ps:=⟨_,rfl⟩;have HR:=hide hR;clear hR
 go_enter Tryz.func9,Tryz.ntmps9
 go_wp2_with fail
 obtain⟨w0,hw0⟩:∃ W,W=(w.alloc (.cells #[.int .i64 x.id,.int .i64 x.boot,.int .i64 x.net.n,.slice a1 x.net.ls.length a1c,.slice a2 x.net.ts.length a2c,.slice a3 x.heard.length a3c,.slice a4 ps.length a4c] 31)).alloc (.cells #[.int .i64 0,.int .i64 0,.int .i64 0,.slice none 0 0,.slice none 0 0,.slice none 0 0,.slice none 0 0] 31):=⟨_,rfl⟩;rw [<-hw0] at B0 Q0 Q1 HOS |-;clear hw0;refine HOS.out.mono ?_
 rintro e w1 ⟨y1,y2,y3,y4,qs,m1,m2,rfl,fq,o1,b1⟩;obtain⟨⟨y1,y1c,rfl⟩,⟨y2,y2c,rfl⟩,⟨y3,y3c,rfl⟩,⟨y4,y4c,rfl⟩⟩:=o1.in.shapes;have B1:Below w.heap.size w w1:=B0.trans (b1.mono B0.size);have g0:=(b1.block _ (Zab Q0.out)).trans Q0.out;have g1:=(b1.block _ (Zab Q1.out)).trans Q1.out;have hl0:=Zab Q1.out;have hl1:=b1.size;have s0:=Zaa g0 0;have s1:=Zaa g0 1;have s2:=Zaa g0 2;have s3:=Zaa g0 3;have s4:=Zaa g0 4;have s5:=Zaa g0 5;have s6:=Zaa g0 6;simp at s0 s1 s2 s3 s4 s5 s6
 have hlw:w.heap.size<w1.heap.size:=by omega
 have hlne:¬w.heap.size=w1.heap.size:=by omega
 have hz:=heap_alloc_new w1 (.cells #[.int .i64 x.id,.int .i64 x.boot,.int .i64 x.net.n,.slice y1 x.net.ls.length y1c,.slice y2 x.net.ts.length y2c,.slice y3 x.heard.length y3c,.slice y4 qs.length y4c] 31);have BN:Below w1.heap.size w1 (w1.alloc (.cells #[.int .i64 x.id,.int .i64 x.boot,.int .i64 x.net.n,.slice y1 x.net.ls.length y1c,.slice y2 x.net.ts.length y2c,.slice y3 x.heard.length y3c,.slice y4 qs.length y4c] 31)):=(Below.refl _ _).alloc (Nat.le_refl _) _;have g0':=(BN.block _ (Zab g0)).trans g0;have g1':=(BN.block _ (Zab g1)).trans g1;have O1:=hide (o1.below BN (Nat.le_refl _));have hs12:w1.heap.size<(w1.alloc (.cells #[.int .i64 x.id,.int .i64 x.boot,.int .i64 x.net.n,.slice y1 x.net.ls.length y1c,.slice y2 x.net.ts.length y2c,.slice y3 x.heard.length y3c,.slice y4 qs.length y4c] 31)).heap.size:=by simp
 have B2:Below w.heap.size w (w1.alloc (.cells #[.int .i64 x.id,.int .i64 x.boot,.int .i64 x.net.n,.slice y1 x.net.ls.length y1c,.slice y2 x.net.ts.length y2c,.slice y3 x.heard.length y3c,.slice y4 qs.length y4c] 31)):=B1.trans (BN.mono B1.size);have FQ:=hide fq;have G0:=hide g0';have G1:=hide g1';have GZ:=hide hz;clear g1 g0' g1' hz o1 fq b1 HOS Q0 Q1 BN
 go_wp2_with (refine Zed rfl rfl ?_)
 intro w2 hw2;have hw2':=hw2.out;obtain⟨wz,hwz⟩:∃ W,W=w1.alloc (.cells #[.int .i64 x.id,.int .i64 x.boot,.int .i64 x.net.n,.slice y1 x.net.ls.length y1c,.slice y2 x.net.ts.length y2c,.slice y3 x.heard.length y3c,.slice y4 qs.length y4c] 31):=⟨_,rfl⟩;have hwzs:wz.heap.size=w1.heap.size+1:=by rw [hwz];simp
 rw [<-hwz] at B2 O1 G0 G1 GZ hs12 hw2';have b2:Below wz.heap.size wz w2:=by rw [hw2'];exact (Below.refl _ _).alloc (Nat.le_refl _) _
 have LIT0:RecsOwn w2 w1.heap.size w2.heap.size (.slice (some ⟨w1.heap.size+1,0,none⟩) 0 0) []:=by
  rw [hw2', <-hwzs];exact Zce wz w1.heap.size (by omega)
 have hsz2:w1.heap.size+1<w2.heap.size:=by rw [hw2', <-hwzs];simp
 obtain⟨z,hzz⟩:∃ z,z=w1.heap.size:=⟨_,rfl⟩;rw [<-hzz] at GZ LIT0 O1 hs12 hsz2 hl1 hlw hlne |-;have hzw:w0.heap.size<=z:=hl1;have hs2z:z<wz.heap.size:=hs12;have LIT:=hide LIT0;have b2':Below z wz w2:=b2.mono (by omega)
 clear hw2 hw2' hwz hzz s0 s1 s2 s3 s4 s5 s6 g0 LIT0 hwzs B1 hs12 hl1;have B3:Below w.heap.size w w2:=B2.trans (b2.mono B2.size);have g0:=(b2.block _ (Zab G0.out)).trans G0.out;have g1:=(b2.block _ (Zab G1.out)).trans G1.out;have gz:=(b2.block _ (Zab GZ.out)).trans GZ.out;have O2:=hide (O1.out.below b2 (by omega))
 have HSO:=hide (Zip _ _ _ _ x ps w2 (by omega) ((HX.out.below B3 hhi).in.more (by have:=B3.size;omega)))
 rw [<-HR.out] at HSO;have GG0:=hide g0;have GG1:=hide g1;have GGZ:=hide gz;have s0:=Zaa GG0.out 0;have s1:=Zaa GG0.out 1;have s2:=Zaa GG0.out 2;have s3:=Zaa GG0.out 3;have s4:=Zaa GG0.out 4;have s5:=Zaa GG0.out 5;have s6:=Zaa GG0.out 6;simp at s0 s1 s2 s3 s4 s5 s6
 clear g0 g1 gz b2 O1 G0 G1 GZ b2' B2
 go_wp2_with fail
 refine HSO.out.mono ?_
 rintro e w3 ⟨rfl,b3⟩;clear s0 s1 s2 s3 s4 s5 s6;have hs23:=b3.size;have B4:Below w.heap.size w w3:=B3.trans (b3.mono B3.size);have g1:=(b3.block _ (Zab GG1.out)).trans GG1.out;have gz:=(b3.block _ (Zab GGZ.out)).trans GGZ.out;have O3:=hide (O2.out.below b3 (by omega))
 have LT3:=hide ((LIT.out.below b3 (Nat.le_refl _)).wide (Nat.le_refl _) hs23);have hlz:w.heap.size+1<w3.heap.size:=Zab g1;have hlz2:z<w3.heap.size:=Zab gz;have hm2:=O3.out.o3;clear b3 B3 HSO O2 LIT GG0 GG1 GGZ;cases R
 ·have r0:=Zaa g1 0
  have r1:=Zaa g1 1;have r2:=Zaa g1 2;have r3:=Zaa g1 3;have r4:=Zaa g1 4;have r5:=Zaa g1 5;have r6:=Zaa g1 6;simp at r0 r1 r2 r3 r4 r5 r6
  have t0:=Zaa gz 0;have t1:=Zaa gz 1;have t2:=Zaa gz 2;have t3:=Zaa gz 3;have t4:=Zaa gz 4;have t5:=Zaa gz 5;have t6:=Zaa gz 6;simp at t0 t1 t2 t3 t4 t5 t6
  have fz0x:=Zae g1 0;have fz1x:=Zae g1 1;have fz2x:=Zae g1 2;have fz3x:=Zae g1 3;have fz4x:=Zae g1 4;have fz5x:=Zae g1 5;have fz6x:=Zae g1 6;have hSL:=hide (show Zc8 x ps ts=fsts ps by unfold Zc8;rw [<-HR.out];rfl)
  have hSN:=hide (show ZcB x ps ts=[] by unfold ZcB;rw [<-HR.out];rfl)
  have G1:=hide g1;clear g1 gz
  go_wp2
  have hfin:(((((((w3.setCell ⟨w.heap.size+1,0,none⟩ (.int .i64 x.id)).setCell ⟨w.heap.size+1,1,none⟩ (.int .i64 x.boot)).setCell ⟨w.heap.size+1,2,none⟩ (.int .i64 x.net.n)).setCell ⟨w.heap.size+1,3,none⟩ (.slice y1 x.net.ls.length y1c)).setCell ⟨w.heap.size+1,4,none⟩ (.slice y2 x.net.ts.length y2c)).setCell ⟨w.heap.size+1,5,none⟩ (.slice y3 x.heard.length y3c)).setCell ⟨w.heap.size+1,6,none⟩ (.slice y4 qs.length y4c)).heap[w.heap.size+1]? = some (.cells #[.int .i64 x.id,.int .i64 x.boot,.int .i64 x.net.n,.slice y1 x.net.ls.length y1c,.slice y2 x.net.ts.length y2c,.slice y3 x.heard.length y3c,.slice y4 qs.length y4c] 31):=by
   have kk0:=G1.out;have kk1:=heap_setCell_same _ _ 0 _ _ (.int .i64 x.id) kk0;have kk2:=heap_setCell_same _ _ 1 _ _ (.int .i64 x.boot) kk1;have kk3:=heap_setCell_same _ _ 2 _ _ (.int .i64 x.net.n) kk2;have kk4:=heap_setCell_same _ _ 3 _ _ (.slice y1 x.net.ls.length y1c) kk3;have kk5:=heap_setCell_same _ _ 4 _ _ (.slice y2 x.net.ts.length y2c) kk4;have kk6:=heap_setCell_same _ _ 5 _ _ (.slice y3 x.heard.length y3c) kk5;have kk7:=heap_setCell_same _ _ 6 _ _ (.slice y4 qs.length y4c) kk6;exact kk7
  have hkeep:∀ k,w.heap.size+2<=k->(((((((w3.setCell ⟨w.heap.size+1,0,none⟩ (.int .i64 x.id)).setCell ⟨w.heap.size+1,1,none⟩ (.int .i64 x.boot)).setCell ⟨w.heap.size+1,2,none⟩ (.int .i64 x.net.n)).setCell ⟨w.heap.size+1,3,none⟩ (.slice y1 x.net.ls.length y1c)).setCell ⟨w.heap.size+1,4,none⟩ (.slice y2 x.net.ts.length y2c)).setCell ⟨w.heap.size+1,5,none⟩ (.slice y3 x.heard.length y3c)).setCell ⟨w.heap.size+1,6,none⟩ (.slice y4 qs.length y4c)).heap[k]? = (w3).heap[k]? := fun k hk=>by
   rw [heap_setCell_other _ ⟨w.heap.size+1,6,none⟩ _ _ (by show k≠w.heap.size+1;omega),heap_setCell_other _ ⟨w.heap.size+1,5,none⟩ _ _ (by show k≠w.heap.size+1;omega),heap_setCell_other _ ⟨w.heap.size+1,4,none⟩ _ _ (by show k≠w.heap.size+1;omega),heap_setCell_other _ ⟨w.heap.size+1,3,none⟩ _ _ (by show k≠w.heap.size+1;omega),heap_setCell_other _ ⟨w.heap.size+1,2,none⟩ _ _ (by show k≠w.heap.size+1;omega),heap_setCell_other _ ⟨w.heap.size+1,1,none⟩ _ _ (by show k≠w.heap.size+1;omega),heap_setCell_other _ ⟨w.heap.size+1,0,none⟩ _ _ (by show k≠w.heap.size+1;omega)]
  have hsize:(((((((w3.setCell ⟨w.heap.size+1,0,none⟩ (.int .i64 x.id)).setCell ⟨w.heap.size+1,1,none⟩ (.int .i64 x.boot)).setCell ⟨w.heap.size+1,2,none⟩ (.int .i64 x.net.n)).setCell ⟨w.heap.size+1,3,none⟩ (.slice y1 x.net.ls.length y1c)).setCell ⟨w.heap.size+1,4,none⟩ (.slice y2 x.net.ts.length y2c)).setCell ⟨w.heap.size+1,5,none⟩ (.slice y3 x.heard.length y3c)).setCell ⟨w.heap.size+1,6,none⟩ (.slice y4 qs.length y4c)).heap.size=(w3).heap.size:=by simp
  have hbel:Below w.heap.size w (((((((w3.setCell ⟨w.heap.size+1,0,none⟩ (.int .i64 x.id)).setCell ⟨w.heap.size+1,1,none⟩ (.int .i64 x.boot)).setCell ⟨w.heap.size+1,2,none⟩ (.int .i64 x.net.n)).setCell ⟨w.heap.size+1,3,none⟩ (.slice y1 x.net.ls.length y1c)).setCell ⟨w.heap.size+1,4,none⟩ (.slice y2 x.net.ts.length y2c)).setCell ⟨w.heap.size+1,5,none⟩ (.slice y3 x.heard.length y3c)).setCell ⟨w.heap.size+1,6,none⟩ (.slice y4 qs.length y4c)):=(((((((B4.setCell (by show w.heap.size<=w.heap.size+1;omega) _).setCell (by show w.heap.size<=w.heap.size+1;omega) _).setCell (by show w.heap.size<=w.heap.size+1;omega) _).setCell (by show w.heap.size<=w.heap.size+1;omega) _).setCell (by show w.heap.size<=w.heap.size+1;omega) _).setCell (by show w.heap.size<=w.heap.size+1;omega) _).setCell (by show w.heap.size<=w.heap.size+1;omega) _)
  try simp only [Exit.inBlock,Exit.then]
  refine bodyPost_ret (ZaR rfl _ _ (w.heap.size+1) 31 #[.int .i64 x.id,.int .i64 x.boot,.int .i64 x.net.n,.slice y1 x.net.ls.length y1c,.slice y2 x.net.ts.length y2c,.slice y3 x.heard.length y3c,.slice y4 qs.length y4c] (0,0) _ rfl hfin Tryz.underlying31 rfl (by kernel_rfl)) rfl ?_
  exact⟨_,_,_,_,_,qs,[],m1,m2,rfl,by rw [FQ.out,hSL.out],by rw [hSN.out];rfl,((O3.out.keep (fun k h1 _ _=>hkeep k (by omega))).low (by omega)).high (by rw [hsize];omega),(LT3.out.keep (fun k h1 _ _=>hkeep k (by omega))).wide (by omega) (by rw [hsize];exact Nat.le_refl _),hbel⟩
 ·have hSL:=hide (show Zc8 x ps ts=(fsts ts).foldl Za7 (fsts ps) by unfold Zc8;rw [<-HR.out];rfl)
  have hSN:=hide (show ZcB x ps ts=Zbu (fsts ps) (fsts ts) by unfold ZcB;rw [<-HR.out];rfl)
  have hqt:=tot_eq FQ.out;have hnt:=Za3 ts;have htt:tot qs+tot ts<=1048576:=by unfold totS at ht;omega
  have G1:=hide g1;have GZ:=hide gz;have HST:=hide (show RecsIn w3 w3.heap.size (.slice y4 qs.length y4c) qs from O3.out.store.in.wide (by omega))
  have HSE:=hide (show ∀ j,(Value.slice y4 qs.length y4c).ownBlock=some j->(Value.slice (some ⟨z+1,0,none⟩) 0 0).ownBlock≠some j from fun j hj e=>by
   have h1:=O3.out.store.top j hj;simp [Value.ownBlock] at e
   omega)
  clear g1 gz hqt
  go_wp2
  go_loopw [8,7] (fun i o wr=>∃ (k:Nat) (u y:Value) (l ns:List RP),k<=ts.length/\i=.int .i64 k/\o=y/\wr.heap[z]? = some (.cells #[.int .i64 x.id,.int .i64 x.boot,.int .i64 x.net.n,.slice y1 x.net.ls.length y1c,.slice y2 x.net.ts.length y2c,.slice y3 x.heard.length y3c,u] 31)/\Hid (l=(ts.take k).foldl Za2 qs)/\RecsIn wr wr.heap.size u l/\Hid (fsts ns=Zbu (fsts ps) (fsts (ts.take k)))/\RecsOwn wr z wr.heap.size y ns/\Hid (∀ j,u.ownBlock=some j->y.ownBlock≠some j)/\Below z w3 wr) (fun i _ _=>ts.length-(intOf i).toNat)
  case atStart=>exact ⟨0,_,_,qs,[],by omega,rfl,rfl,GZ.out,hide rfl,HST.out,hide rfl,LT3.out,HSE,Below.refl _ _⟩
  case round=>
   obtain⟨k,u,y,l,ns,hk,rfl,rfl,hgz,HLL,hown,HNS,hnew,HDJ,hnx⟩:=hrel;obtain⟨ua,uc,rfl⟩:=Zac hown.row;obtain⟨ya,yc,rfl⟩:=Zac hnew.row;have hsz:=hnx.size;have BWr:Below w.heap.size w wr:=B4.trans (hnx.mono (by omega))
   have hlt0:tot l<=1048576:=by
    rw [HLL.out];have h1:=Zg0 qs (ts.take k);have h2:=Zbq (ts.take k) (ts.drop k);rw [List.take_append_drop] at h2;omega
   have hns0:ns.length<=1048576:=by
    have h1:=Zi5 (fsts ps) (fsts (ts.take k));rw [<-HNS.out, <-ZdQ, <-ZdQ] at h1;have h2:=Zbq (ts.take k) (ts.drop k);rw [List.take_append_drop] at h2;have:=Za3 ns;omega
   have g6:=Zaa hgz 6;simp at g6
   have hzr:=Zab hgz;have HGZ:=hide hgz;clear hgz;by_cases hlt:k<ts.length
   ·have hkj:(k:Int)<(ts.length:Int):=by omega
    have hki:(0:Int)<=(k:Int):=by omega
    obtain⟨p,hp⟩:∃ p,ts[k]? = some p:=⟨ts[k],List.getElem?_eq_getElem hlt⟩;obtain⟨b,off,cap',hve,hbb,d0,d1,d2,d3,d4,d5,d6,d7,hnr⟩:=HL.out.at.cells k p hp;cases hve
    obtain⟨pa,pc,hpn⟩:=ZaA.shape hnr;rw [hpn] at d5;have hbw:b<w.heap.size:=by omega
    have hbr:b<wr.heap.size:=by omega
    rw [<-BWr.cell (p:=⟨b,off+k*8,none⟩) hbw] at d0;rw [<-BWr.cell (p:=⟨b,off+k*8+1,none⟩) hbw] at d1;rw [<-BWr.cell (p:=⟨b,off+k*8+2,none⟩) hbw] at d2;rw [<-BWr.cell (p:=⟨b,off+k*8+3,none⟩) hbw] at d3;rw [<-BWr.cell (p:=⟨b,off+k*8+4,none⟩) hbw] at d4;rw [<-BWr.cell (p:=⟨b,off+k*8+5,none⟩) hbw] at d5;rw [<-BWr.cell (p:=⟨b,off+k*8+6,none⟩) hbw] at d6;rw [<-BWr.cell (p:=⟨b,off+k*8+7,none⟩) hbw] at d7;have hpl:p.1.near.length<=1048576:=by have:=Zc6 (List.mem_of_getElem? hp);omega
    have HNO:=hide (fun W (hb:Below w.heap.size w W)=>(HL.out.nears p (List.mem_of_getElem? hp)).keep (W':=W) (fun j _ h2 _=>hb.block j (by omega)))
    have BD:Below wr.heap.size wr wr.drew:=(Below.refl _ _).drew;have HIN:=hide (Zge (.slice ua l.length uc) l wr.heap.size p wr.drew (hown.below BD (Nat.le_refl _)) (Nat.le_refl _) hlt0 ((HNO.out wr.drew BWr.drew).wide (Nat.le_refl _) (by omega)) hpl)
    have HCP:=hide (fun W (hb:Below w.heap.size w W)=>Zhh p.1 p.2 0 W (HNO.out W hb).1 hpl)
    have HNX:=hide (show Za2 l p=(ts.take (k+1)).foldl Za2 qs by rw [Ze7 qs hp,HLL.out])
    have HNT:=hide (show Zbu (fsts ps) (fsts (ts.take (k+1)))=Zbu (fsts ps) (fsts (ts.take k))++(if ZaE (fsts l) p.1 then [p.1] else []) by rw [Zdx hp,Zf5,HLL.out,Zdc,FQ.out])
    unfold recC at HIN HCP;rw [hpn] at HIN HCP;have HOW:=hide hown;have HNW:=hide hnew;obtain⟨TT,hTT⟩:∃ T,T=ZaE (fsts l) p.1:=⟨_,rfl⟩;rw [<-hTT] at HIN HNT;have HTT:=hide hTT;clear hp hnr hpn hown hnew hTT BD
    go_wp2
    go_region_held3 (fun W=>W.cell? ⟨z,6,none⟩=some (.slice ua l.length uc)/\W.cell? ⟨b,off+k*8,none⟩=some (.int .i64 p.1.area)/\W.cell? ⟨b,off+k*8+1,none⟩=some (.int .i64 p.1.kind)/\W.cell? ⟨b,off+k*8+2,none⟩=some (.int .i64 p.1.owner)/\W.cell? ⟨b,off+k*8+3,none⟩=some (.int .i64 p.1.key)/\W.cell? ⟨b,off+k*8+4,none⟩=some (.int .i64 p.1.seq)/\W.cell? ⟨b,off+k*8+5,none⟩=some (.slice pa p.1.near.length pc)/\W.cell? ⟨b,off+k*8+6,none⟩=some (.int .i64 p.1.cost)/\W.cell? ⟨b,off+k*8+7,none⟩=some (.bool p.1.far)) (first | go_keep | (refine ⟨?_,?_,?_,?_,?_,?_,?_,?_,?_⟩ <;> (rw [b4.cell (by first | exact hzr | exact hbr)];assumption))) (first | (go_at_call 32;refine HIN.out.mono ?_;rintro e w4 ⟨xv,rfl,ix,b4,hxb⟩;obtain⟨xa,xc,rfl⟩:=Zac ix.row))
    have b4s:wr.heap.size<=w4.heap.size:=b4.size;have B4w:Below wr.heap.size wr w4:=(Below.refl _ _).drew.trans b4;have BW4:Below w.heap.size w w4:=BWr.trans (B4w.mono (by omega))
    have gz4:=(B4w.block _ (Zab HGZ.out)).trans HGZ.out;have NW4:=hide ((HNW.out.below B4w (Nat.le_refl _)).wide (Nat.le_refl _) b4s);have NX4:Below z w3 w4:=hnx.trans (B4w.mono (by omega))
    cases TT
    ·have HN1:=hide (show l=(ts.take (k+1)).foldl Za2 qs by rw [<-HNX.out,Ze9 HTT.out.symm])
     have HN2:=hide (show fsts ns=Zbu (fsts ps) (fsts (ts.take (k+1))) by rw [HNT.out,HNS.out];simp)
     have OW4:=hide ((HOW.out.below B4w (Nat.le_refl _)).wide b4s);have GZ4:=hide gz4;clear gz4 ix hxb g6 d0 d1 d2 d3 d4 d5 d6 d7 b4
     go_wp2
     go_roundw
     case rel=>exact ⟨k+1,_,_,l,ns,by omega,by go_num,rfl,GZ4.out,HN1,OW4.out,HN2,NW4.out,HDJ,NX4⟩
     case measure=>simp [intOf];omega
    ·have e6:=Zaa gz4 6
     simp at e6
     have f6:=Zae gz4 6;rw [<-B4w.cell (p:=⟨b,off+k*8,none⟩) hbr] at d0;rw [<-B4w.cell (p:=⟨b,off+k*8+1,none⟩) hbr] at d1;rw [<-B4w.cell (p:=⟨b,off+k*8+2,none⟩) hbr] at d2;rw [<-B4w.cell (p:=⟨b,off+k*8+3,none⟩) hbr] at d3;rw [<-B4w.cell (p:=⟨b,off+k*8+4,none⟩) hbr] at d4;rw [<-B4w.cell (p:=⟨b,off+k*8+5,none⟩) hbr] at d5;rw [<-B4w.cell (p:=⟨b,off+k*8+6,none⟩) hbr] at d6;rw [<-B4w.cell (p:=⟨b,off+k*8+7,none⟩) hbr] at d7;have hbz:¬b=z:=by omega
     have hbz2:¬z=b:=by omega
     have hzx:some z≠(Value.slice xa (Za2 l p).length xc).ownBlock:=Zax ix.row gz4 (by decide)
     have hzn:∀ q∈Za2 l p,some z≠q.2.ownBlock:=fun q hq=>Zax (ix.nears q hq).1 gz4 (by decide)
     have hzy:some z≠(Value.slice ya ns.length yc).ownBlock:=Zax NW4.out.row gz4 (by decide)
     have hzm:∀ q∈ns,some z≠q.2.ownBlock:=fun q hq=>Zax (NW4.out.nears q hq).1 gz4 (by decide)
     have g5:(w4.setCell ⟨z,6,none⟩ (.slice xa (Za2 l p).length xc)).heap[z]? = some (.cells #[.int .i64 x.id,.int .i64 x.boot,.int .i64 x.net.n,.slice y1 x.net.ls.length y1c,.slice y2 x.net.ts.length y2c,.slice y3 x.heard.length y3c,(.slice xa (Za2 l p).length xc)] 31):=heap_setCell_same _ _ 6 _ _ (.slice xa (Za2 l p).length xc) gz4;have hoth:∀ j,j≠z->(w4.setCell ⟨z,6,none⟩ (.slice xa (Za2 l p).length xc)).heap[j]? = w4.heap[j]? := fun j hj=>heap_setCell_other _ ⟨z,6,none⟩ _ _ hj
     have IX5:=hide (ZeB (hi':=w4.heap.size) (W':=w4.setCell ⟨z,6,none⟩ (.slice xa (Za2 l p).length xc)) ix (Nat.le_refl _) (fun j hj=>hoth j (fun e=>hzx (by rw [<-e];exact hj.symm))) (fun q hq j hj=>hoth j (fun e=>hzn q hq (by rw [<-e];exact hj.symm))))
     have NW5:=hide (NW4.out.keepS (W':=w4.setCell ⟨z,6,none⟩ (.slice xa (Za2 l p).length xc)) (fun j hj=>hoth j (fun e=>by
      rcases hj with hj | ⟨q,hq,hj⟩
      ·exact hzy (by rw [<-e];exact hj.symm)
      ·exact hzm q hq (by rw [<-e];exact hj.symm))))
     have BW5:Below w.heap.size w (w4.setCell ⟨z,6,none⟩ (.slice xa (Za2 l p).length xc)):=BW4.setCell (by show w.heap.size<=z;omega) _
     have NX5:Below z w3 (w4.setCell ⟨z,6,none⟩ (.slice xa (Za2 l p).length xc)):=NX4.setCell (Nat.le_refl _) _;have zz5:(w4.setCell ⟨z,6,none⟩ (.slice xa (Za2 l p).length xc)).heap.size=w4.heap.size:=by simp
     have HCC:=hide (HCP.out _ BW5);have HXB:=hide hxb;have G5:=hide g5;clear gz4 ix hxb g5 hoth hzx hzn hzy hzm b4 HIN
     go_wp2_with fail
     obtain⟨w5,hw5⟩:∃ W,W=w4.setCell ⟨z,6,none⟩ (.slice xa (Za2 l p).length xc):=⟨_,rfl⟩;rw [<-hw5] at IX5 NW5 BW5 NX5 zz5 HCC G5 |-;clear hw5;refine HCC.out.mono ?_
     rintro e w6 ⟨n1,rfl,o6,b6⟩;obtain⟨n1a,n1c,rfl⟩:=Zac o6;have b6s:=b6.size;have HZ5:=hide zz5;have hz54:w5.heap.size<=w4.heap.size:=by omega
     have hz45:w4.heap.size<=w5.heap.size:=by omega
     have NW5w:=hide (NW5.out.wide (Nat.le_refl _) hz45);clear zz5 d0 d1 d2 d3 d4 d5 d6 d7 e6 f6 g6;have ROW6:=hide (Zah NW5w.out.row b6 (Nat.le_refl _))
     go_wp2_with (first
      | (at_builtin;refine Zdv ZaK (by omega) (by omega) _ rfl _ _ 29 rfl z 40 Tryz.underlying29 (.agg (recC Zbe (.slice none 0 0))) rfl Tryz.infoRec _ ns (p.1,.slice n1a p.1.near.length n1c) (Zbm _ _ _ _) rfl (ROW6.out.alloc _) ⟨w6.heap.size,0,none⟩ 1 rfl (Zar (cs:=encP (p.1,.slice n1a p.1.near.length n1c))) (by omega) (by simp;omega) ?_))
     intro v7 w7 row7 gv7;have b7s:=gv7.1.size;simp at b7s
     have NW7:=hide (NW5w.out.push (p:=(p.1,.slice n1a p.1.near.length n1c)) (b6.alloc b6.size _) (by omega) (Zat.wide (Zat.keep ⟨o6,fun k hk=>(o6.lt k hk).2⟩ (fun j _ _ h3=>Below.heap_alloc _ _ _ h3)) (Nat.le_refl _) (by simp)) row7 gv7.1)
     have BA6:Below w5.heap.size w5 (w6.alloc (.cells (encP (p.1,.slice n1a p.1.near.length n1c)).toArray 40)):=b6.alloc b6.size _;have hyb:∀ j,(Value.slice ya ns.length yc).ownBlock=some j->j<wr.heap.size:=fun j hj=>(HNW.out.row.lt j hj).2
     have hkeep:∀ j,j<w5.heap.size->(Value.slice ya ns.length yc).ownBlock≠some j->w7.heap[j]? = w5.heap[j]? := fun j hj hne=>(gv7.1.block j (by simp;omega) (fun e=>hne e.symm)).trans (BA6.block j hj)
     have IX7:=hide (ZeB (hi':=w7.heap.size) (W':=w7) IX5.out (by omega) (fun j hj=>hkeep j (by have:=(IX5.out.row.lt j hj).2;omega) (fun e=>by
       rcases HXB.out j hj with h | h
       ·exact HDJ.out j h e
       ·have:=hyb j e;have:wr.heap.size<=j:=h;omega)) (fun q hq j hj=>hkeep j (by have:=((IX5.out.nears q hq).1.lt j hj).2;omega) (fun e=>by
       have h1:=Zcm (IX5.out.nears q hq) NW5w.out.row j hj;exact h1 e.symm)))
     have G7:=hide ((hkeep z (Zab G5.out) (fun e=>Zax NW5w.out.row G5.out (by decide) e.symm)).trans G5.out)
     have NX7:Below z w3 w7:=(NX5.trans (BA6.mono (by omega))).grown gv7.1 (by have:=BA6.size;omega) (fun j hj=>(HNW.out.row.lt j hj).1)
     have DJ7:=hide (show ∀ j,(Value.slice xa (Za2 l p).length xc).ownBlock=some j->v7.ownBlock≠some j from fun j hj e=>by
      have h5:=(IX5.out.row.lt j hj).2
      rcases gv7.2 j e with h | h
      ·rcases HXB.out j hj with h2 | h2
       ·exact HDJ.out j h2 h
       ·have:=hyb j h;have:wr.heap.size<=j:=h2;omega
      ·have:=BA6.size;simp at h;omega)
     have HN2:=hide (show fsts (ns++[(p.1,Value.slice n1a p.1.near.length n1c)])=Zbu (fsts ps) (fsts (ts.take (k+1))) by rw [HNT.out, <-HNS.out];simp [fsts])
     obtain⟨v7a,v7c,rfl⟩:=Zac row7;clear row7 gv7 o6 b6 hyb hkeep BA6
     go_wp2
     go_roundw
     case rel=>exact ⟨k+1,_,_,Za2 l p,_,by omega,by go_num,rfl,G7.out,HNX,IX7.out,HN2,NW7.out,DJ7,NX7⟩
     case measure=>simp [intOf];omega
   ·have hkj:¬(k:Int)<(ts.length:Int):=by omega
    have KN:=hide (show k=ts.length by omega)
    have HCL:=hide (ZcA (.slice ua l.length uc) l wr.heap.size wr hown (Nat.le_refl _) hlt0);have HF1:=hide (show fsts l=Zc8 x ps ts by rw [hSL.out,HLL.out,KN.out,List.take_length,Zdc,FQ.out])
    have HF2:=hide (show fsts ns=ZcB x ps ts by rw [hSN.out,HNS.out,KN.out,List.take_length])
    have HNW:=hide hnew;clear hown hnew
    go_wp2_with fail
    refine HCL.out.mono ?_
    rintro e w4 ⟨kv,ks,rfl,fk,ok,b4⟩;obtain⟨k4,k4c,rfl⟩:=Zac ok.row;have b4s:=b4.size;have BW4:Below w.heap.size w w4:=BWr.trans (b4.mono (by omega))
    have NX4:Below z w3 w4:=hnx.trans (b4.mono (by omega))
    have gz:=(b4.block _ (Zab HGZ.out)).trans HGZ.out;have g1:=(NX4.block _ (by omega)).trans G1.out
    clear g6;have r0:=Zaa g1 0;have r1:=Zaa g1 1;have r2:=Zaa g1 2;have r3:=Zaa g1 3;have r4:=Zaa g1 4;have r5:=Zaa g1 5;have r6:=Zaa g1 6;simp at r0 r1 r2 r3 r4 r5 r6
    have t0:=Zaa gz 0;have t1:=Zaa gz 1;have t2:=Zaa gz 2;have t3:=Zaa gz 3;have t4:=Zaa gz 4;have t5:=Zaa gz 5;have t6:=Zaa gz 6;simp at t0 t1 t2 t3 t4 t5 t6
    have fz0x:=Zae g1 0;have fz1x:=Zae g1 1;have fz2x:=Zae g1 2;have fz3x:=Zae g1 3;have fz4x:=Zae g1 4;have fz5x:=Zae g1 5;have fz6x:=Zae g1 6;have fzz:=Zae gz 6;have hlz4:w.heap.size+1<w4.heap.size:=Zab g1;have hlz5:z<w4.heap.size:=Zab gz;have hzne:¬z=w.heap.size+1:=by omega
    have hzne2:¬w.heap.size+1=z:=by omega
    have OW:=hide (show SelfOwn w4 w0.heap.size w4.heap.size (.slice y1 x.net.ls.length y1c) (.slice y2 x.net.ts.length y2c) (.slice y3 x.heard.length y3c) (.slice k4 ks.length k4c) x ks m1 wr.heap.size from by
     have h:=O3.out.below NX4 (Nat.le_refl _);exact⟨h.o1,by have:=h.o2;omega,b4s,h.links,h.ltop,h.things,h.ttop,h.heard.wide (Nat.le_refl _) (by omega),ok⟩)
    have LTZ:=hide (show (∀ k,(Value.slice y1 x.net.ls.length y1c).ownBlock=some k->k≠z)/\(∀ k,(Value.slice y2 x.net.ts.length y2c).ownBlock=some k->k≠z)/\(∀ k,(Value.slice y3 x.heard.length y3c).ownBlock=some k->k≠z) from by
     have h:=O3.out;have h3:=h.o3;have h2:=h.o2;refine⟨fun k e=>?_,fun k e=>?_,fun k e=>?_⟩
     ·have:=h.ltop k e;omega
     ·have:=h.ttop k e;omega
     ·have:=h.heard.top k e;omega)
    have NW4:=hide ((HNW.out.below b4 (Nat.le_refl _)).wide (Nat.le_refl _) b4s);have NZ:=hide (show ∀ k,Zgo (.slice ya ns.length yc) ns k->k≠z from fun k hk e=>by
     rcases hk with hk | ⟨q,hq,hk⟩
     ·exact Zax NW4.out.row gz (by decide) (by rw [<-e];exact hk.symm)
     ·exact Zax (NW4.out.nears q hq).1 gz (by decide) (by rw [<-e];exact hk.symm))
    have FK:=hide (fk.trans HF1.out);have G1B:=hide g1;clear g1 gz fk ok b4 HCL
    go_wp2
    have hfin:((((((((w4.setCell ⟨z,6,none⟩ (.slice k4 ks.length k4c)).setCell ⟨w.heap.size+1,0,none⟩ (.int .i64 x.id)).setCell ⟨w.heap.size+1,1,none⟩ (.int .i64 x.boot)).setCell ⟨w.heap.size+1,2,none⟩ (.int .i64 x.net.n)).setCell ⟨w.heap.size+1,3,none⟩ (.slice y1 x.net.ls.length y1c)).setCell ⟨w.heap.size+1,4,none⟩ (.slice y2 x.net.ts.length y2c)).setCell ⟨w.heap.size+1,5,none⟩ (.slice y3 x.heard.length y3c)).setCell ⟨w.heap.size+1,6,none⟩ (.slice k4 ks.length k4c)).heap[w.heap.size+1]? = some (.cells #[.int .i64 x.id,.int .i64 x.boot,.int .i64 x.net.n,.slice y1 x.net.ls.length y1c,.slice y2 x.net.ts.length y2c,.slice y3 x.heard.length y3c,.slice k4 ks.length k4c] 31):=by
     have kk0:(w4.setCell ⟨z,6,none⟩ (.slice k4 ks.length k4c)).heap[w.heap.size+1]? = some (.cells #[.int .i64 0,.int .i64 0,.int .i64 0,.slice none 0 0,.slice none 0 0,.slice none 0 0,.slice none 0 0] 31):=by
      rw [heap_setCell_other _ ⟨z,6,none⟩ _ _ (by show w.heap.size+1≠z;exact hzne2)]
      exact G1B.out
     have kk1:=heap_setCell_same _ _ 0 _ _ (.int .i64 x.id) kk0;have kk2:=heap_setCell_same _ _ 1 _ _ (.int .i64 x.boot) kk1;have kk3:=heap_setCell_same _ _ 2 _ _ (.int .i64 x.net.n) kk2;have kk4:=heap_setCell_same _ _ 3 _ _ (.slice y1 x.net.ls.length y1c) kk3;have kk5:=heap_setCell_same _ _ 4 _ _ (.slice y2 x.net.ts.length y2c) kk4;have kk6:=heap_setCell_same _ _ 5 _ _ (.slice y3 x.heard.length y3c) kk5;have kk7:=heap_setCell_same _ _ 6 _ _ (.slice k4 ks.length k4c) kk6;exact kk7
    have hkeep:∀ k,w.heap.size+2<=k->k≠z->((((((((w4.setCell ⟨z,6,none⟩ (.slice k4 ks.length k4c)).setCell ⟨w.heap.size+1,0,none⟩ (.int .i64 x.id)).setCell ⟨w.heap.size+1,1,none⟩ (.int .i64 x.boot)).setCell ⟨w.heap.size+1,2,none⟩ (.int .i64 x.net.n)).setCell ⟨w.heap.size+1,3,none⟩ (.slice y1 x.net.ls.length y1c)).setCell ⟨w.heap.size+1,4,none⟩ (.slice y2 x.net.ts.length y2c)).setCell ⟨w.heap.size+1,5,none⟩ (.slice y3 x.heard.length y3c)).setCell ⟨w.heap.size+1,6,none⟩ (.slice k4 ks.length k4c)).heap[k]? = w4.heap[k]? := fun k hk hk3=>by
     rw [heap_setCell_other _ ⟨w.heap.size+1,6,none⟩ _ _ (by show k≠w.heap.size+1;omega),heap_setCell_other _ ⟨w.heap.size+1,5,none⟩ _ _ (by show k≠w.heap.size+1;omega),heap_setCell_other _ ⟨w.heap.size+1,4,none⟩ _ _ (by show k≠w.heap.size+1;omega),heap_setCell_other _ ⟨w.heap.size+1,3,none⟩ _ _ (by show k≠w.heap.size+1;omega),heap_setCell_other _ ⟨w.heap.size+1,2,none⟩ _ _ (by show k≠w.heap.size+1;omega),heap_setCell_other _ ⟨w.heap.size+1,1,none⟩ _ _ (by show k≠w.heap.size+1;omega),heap_setCell_other _ ⟨w.heap.size+1,0,none⟩ _ _ (by show k≠w.heap.size+1;omega),heap_setCell_other _ ⟨z,6,none⟩ _ _ (by show k≠z;exact hk3)]
    have hsize:((((((((w4.setCell ⟨z,6,none⟩ (.slice k4 ks.length k4c)).setCell ⟨w.heap.size+1,0,none⟩ (.int .i64 x.id)).setCell ⟨w.heap.size+1,1,none⟩ (.int .i64 x.boot)).setCell ⟨w.heap.size+1,2,none⟩ (.int .i64 x.net.n)).setCell ⟨w.heap.size+1,3,none⟩ (.slice y1 x.net.ls.length y1c)).setCell ⟨w.heap.size+1,4,none⟩ (.slice y2 x.net.ts.length y2c)).setCell ⟨w.heap.size+1,5,none⟩ (.slice y3 x.heard.length y3c)).setCell ⟨w.heap.size+1,6,none⟩ (.slice k4 ks.length k4c)).heap.size=w4.heap.size:=by simp
    have hbel:Below w.heap.size w ((((((((w4.setCell ⟨z,6,none⟩ (.slice k4 ks.length k4c)).setCell ⟨w.heap.size+1,0,none⟩ (.int .i64 x.id)).setCell ⟨w.heap.size+1,1,none⟩ (.int .i64 x.boot)).setCell ⟨w.heap.size+1,2,none⟩ (.int .i64 x.net.n)).setCell ⟨w.heap.size+1,3,none⟩ (.slice y1 x.net.ls.length y1c)).setCell ⟨w.heap.size+1,4,none⟩ (.slice y2 x.net.ts.length y2c)).setCell ⟨w.heap.size+1,5,none⟩ (.slice y3 x.heard.length y3c)).setCell ⟨w.heap.size+1,6,none⟩ (.slice k4 ks.length k4c)):=((((((((BW4.setCell (by show w.heap.size<=z;omega) _).setCell (by show w.heap.size<=w.heap.size+1;omega) _).setCell (by show w.heap.size<=w.heap.size+1;omega) _).setCell (by show w.heap.size<=w.heap.size+1;omega) _).setCell (by show w.heap.size<=w.heap.size+1;omega) _).setCell (by show w.heap.size<=w.heap.size+1;omega) _).setCell (by show w.heap.size<=w.heap.size+1;omega) _).setCell (by show w.heap.size<=w.heap.size+1;omega) _)
    try simp only [Exit.inBlock,Exit.then]
    refine bodyPost_ret (ZaR rfl _ _ (w.heap.size+1) 31 #[.int .i64 x.id,.int .i64 x.boot,.int .i64 x.net.n,.slice y1 x.net.ls.length y1c,.slice y2 x.net.ts.length y2c,.slice y3 x.heard.length y3c,.slice k4 ks.length k4c] (0,0) _ rfl hfin Tryz.underlying31 rfl (by kernel_rfl)) rfl ?_
    have fin1:SelfOwn ((((((((w4.setCell ⟨z,6,none⟩ (.slice k4 ks.length k4c)).setCell ⟨w.heap.size+1,0,none⟩ (.int .i64 x.id)).setCell ⟨w.heap.size+1,1,none⟩ (.int .i64 x.boot)).setCell ⟨w.heap.size+1,2,none⟩ (.int .i64 x.net.n)).setCell ⟨w.heap.size+1,3,none⟩ (.slice y1 x.net.ls.length y1c)).setCell ⟨w.heap.size+1,4,none⟩ (.slice y2 x.net.ts.length y2c)).setCell ⟨w.heap.size+1,5,none⟩ (.slice y3 x.heard.length y3c)).setCell ⟨w.heap.size+1,6,none⟩ (.slice k4 ks.length k4c)) w0.heap.size w4.heap.size (.slice y1 x.net.ls.length y1c) (.slice y2 x.net.ts.length y2c) (.slice y3 x.heard.length y3c) (.slice k4 ks.length k4c) x ks m1 wr.heap.size:=by
     have h:=OW.out;exact⟨h.o1,h.o2,h.o3,Zam h.links (fun k e=>hkeep k (by have:=(h.links.lt k e).1;omega) (LTZ.out.1 k e)),h.ltop,Zam h.things (fun k e=>hkeep k (by have:=(h.things.lt k e).1;omega) (LTZ.out.2.1 k e)),h.ttop,⟨Zam h.heard.row (fun k e=>hkeep k (by have:=(h.heard.row.lt k e).1;have:=h.o1;omega) (LTZ.out.2.2 k e)),h.heard.top⟩,h.store.keep (fun k h1 _ _=>hkeep k (by omega) (by omega))⟩
    have fin2:=(NW4.out.keepS (W':=((((((((w4.setCell ⟨z,6,none⟩ (.slice k4 ks.length k4c)).setCell ⟨w.heap.size+1,0,none⟩ (.int .i64 x.id)).setCell ⟨w.heap.size+1,1,none⟩ (.int .i64 x.boot)).setCell ⟨w.heap.size+1,2,none⟩ (.int .i64 x.net.n)).setCell ⟨w.heap.size+1,3,none⟩ (.slice y1 x.net.ls.length y1c)).setCell ⟨w.heap.size+1,4,none⟩ (.slice y2 x.net.ts.length y2c)).setCell ⟨w.heap.size+1,5,none⟩ (.slice y3 x.heard.length y3c)).setCell ⟨w.heap.size+1,6,none⟩ (.slice k4 ks.length k4c))) (fun k hk=>hkeep k (by have:=(NW4.out.blk k hk).1;omega) (NZ.out k hk))).wide (lo':=w.heap.size) (hi':=((((((((w4.setCell ⟨z,6,none⟩ (.slice k4 ks.length k4c)).setCell ⟨w.heap.size+1,0,none⟩ (.int .i64 x.id)).setCell ⟨w.heap.size+1,1,none⟩ (.int .i64 x.boot)).setCell ⟨w.heap.size+1,2,none⟩ (.int .i64 x.net.n)).setCell ⟨w.heap.size+1,3,none⟩ (.slice y1 x.net.ls.length y1c)).setCell ⟨w.heap.size+1,4,none⟩ (.slice y2 x.net.ts.length y2c)).setCell ⟨w.heap.size+1,5,none⟩ (.slice y3 x.heard.length y3c)).setCell ⟨w.heap.size+1,6,none⟩ (.slice k4 ks.length k4c)).heap.size) (by omega) (by rw [hsize];exact Nat.le_refl _)
    exact⟨_,_,_,_,_,ks,ns,m1,wr.heap.size,rfl,FK.out,HF2.out,(fin1.low (by omega)).high (by rw [hsize];omega),fin2,hbel⟩
end Go.Proofs.YtcimbiinljcifaaGreat
