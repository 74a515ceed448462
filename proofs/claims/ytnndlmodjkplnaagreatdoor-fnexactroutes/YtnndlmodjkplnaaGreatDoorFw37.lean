/-
  RoutesLaw Open4 OpenNet Open2 OpenRec OpenN OpenRecs OpenWay OpenInts OpenSelf OpenNode
-/
import Derived.Test.YtnndlmodjkplnaaGreatDoorFw36
import Derived.Test.YtnndlmodjkplnaaGreatDoorFw34
import Derived.Test.YtnndlmodjkplnaaGreatDoorFw18
import Derived.Deep.RegionHeld3
import Derived.Test.YtnndlmodjkplnaaGreatDoorFw1
import Derived.Deep.Slices
import Derived.ChangeSame
import Derived.OpenShut
import Derived.Test.YtnndlmodjkplnaaGreatDoorFw2
import Derived.Test.YtnndlmodjkplnaaGreatDoorFw3
import Derived.Test.YtnndlmodjkplnaaGreatDoorFw4
import Derived.Test.YtnndlmodjkplnaaGreatDoorFw5
namespace Go.Proofs.YtnndlmodjkplnaaGreatDoor
open Go.RowKit
set_option linter.unusedSimpArgs false
set_option linter.unusedVariables false
set_option maxRecDepth 100000
set_option maxHeartbeats 8000000
theorem NodeOwn.frame {W W':World}{lo hi m1 m2 m3 l2 h2:Nat}{v1 v2 v3 v4 v5:Value}{x:SelfD}{ps:List RP}{es:List Th}(h:NodeOwn W lo hi v1 v2 v3 v4 v5 x ps es m1 m2 m3)(hb:Frame l2 h2 W W')(hB:hi<=l2\/h2<=lo):NodeOwn W' lo hi v1 v2 v3 v4 v5 x ps es m1 m2 m3:=h.keep (fun k a b c=>hb.block k c (by omega))
theorem fnExactRoutes_walk (v:Value)(x:SelfD)(ps:List RP)(es:List Th)(w:World)(hx:Zpo w v x ps es w.heap.size/\ZjD x ps es)(hg:Zce w):
  Calls Tryz.prog 4 #[v] w fun e w'=>e=.returned (.bool true)/\Below w.heap.size w w':=by
 obtain⟨hx,hlen⟩:=hx;obtain⟨v1,v2,v3,v4,v5,rfl,hi1,hi2⟩:=hx;have hi:NodeIn w v1 v2 v3 v4 v5 x ps es w.heap.size:=⟨hi1,hi2⟩;clear hi1 hi2;obtain⟨⟨a1,a1c,rfl⟩,⟨a2,a2c,rfl⟩,⟨a3,a3c,rfl⟩,⟨a4,a4c,rfl⟩,⟨a5,a5c,rfl⟩⟩:=hi.shapes;have HX:=hide hi;have HG:=hide hg;have BA:Below w.heap.size w (w.alloc (.cells #[.int .i64 x.id,.int .i64 x.boot,.int .i64 x.net.n,.slice a1 x.net.ls.length a1c,.slice a2 x.net.ts.length a2c,.slice a3 x.heard.length a3c,.slice a4 ps.length a4c,.slice a5 es.length a5c] 32)):=(Below.refl _ _).alloc (Nat.le_refl _) _;have g0:=heap_alloc_new w (.cells #[.int .i64 x.id,.int .i64 x.boot,.int .i64 x.net.n,.slice a1 x.net.ls.length a1c,.slice a2 x.net.ts.length a2c,.slice a3 x.heard.length a3c,.slice a4 ps.length a4c,.slice a5 es.length a5c] 32);have HSZ:=hide (Zms _ _ _ _ _ x ps es (w.alloc (.cells #[.int .i64 x.id,.int .i64 x.boot,.int .i64 x.net.n,.slice a1 x.net.ls.length a1c,.slice a2 x.net.ts.length a2c,.slice a3 x.heard.length a3c,.slice a4 ps.length a4c,.slice a5 es.length a5c] 32)) hlen (HX.out.then BA));have GL0:=hide g0;clear g0 hi hg hlen
 go_enter Tryz.func4,Tryz.ntmps4
 go_wp2_with fail
 obtain⟨w0,hw0⟩:∃ W,W=w.alloc (.cells #[.int .i64 x.id,.int .i64 x.boot,.int .i64 x.net.n,.slice a1 x.net.ls.length a1c,.slice a2 x.net.ts.length a2c,.slice a3 x.heard.length a3c,.slice a4 ps.length a4c,.slice a5 es.length a5c] 32):=⟨_,rfl⟩;rw [<-hw0] at BA GL0 HSZ |-;clear hw0;have BW0:=hide BA;have hs0:=BA.size;clear BA;refine HSZ.out.mono ?_
 rintro e w1 ⟨r,rfl,hr,b1⟩;clear HSZ;have hs1:=b1.size;have BW1:=hide (BW0.out.trans (b1.mono BW0.out.size));have GL1:=hide ((b1.block _ (Zab GL0.out)).trans GL0.out);clear b1 BW0 GL0
 rcases hr with hr | ⟨hr0,hr⟩
 ·go_wp2
  go_ret
  exact⟨rfl,BW1.out⟩
 have hr1:¬r<0:=by omega
 have HT:=hide (show Zbm x ps es<=1048576 by omega)
 clear hr hr0;have HTS:=hide (fun W (hb:Below w.heap.size w W)=>ZmA _ _ _ _ _ x ps es W HT.out (HX.out.then hb))
 have HGB:=hide (fun W (hb:Below w.heap.size w W)=>HG.out.below hb HG.out.pos)
 have hgl:=Zab GL1.out;have s0:=Zaa GL1.out 0;have s1:=Zaa GL1.out 1;have s2:=Zaa GL1.out 2;have s3:=Zaa GL1.out 3;have s4:=Zaa GL1.out 4;have s5:=Zaa GL1.out 5;have s6:=Zaa GL1.out 6;have s7:=Zaa GL1.out 7;simp at s0 s1 s2 s3 s4 s5 s6 s7
 go_wp2_with fail
 refine (HTS.out _ BW1.out).mono ?_
 rintro e w2 ⟨u1,u2,u3,u4,u5,qA,mA1,mA2,mA3,rfl,fA,oA,b2⟩;clear s0 s1 s2 s3 s4 s5 s6 s7;have hs2:=b2.size;have BW2:=hide (BW1.out.trans (b2.mono BW1.out.size));have GL2:=hide ((b2.block _ (Zab GL1.out)).trans GL1.out);clear b2 BW1 GL1;have HSP:=hide (Zjm _ _ _ _ _ x qA es _ _ _ _ w2 (by have h:=HT.out;unfold Zbm totS at h |-;rw [Zjy fA];exact h) (oA.low (Nat.le_refl _)))
 have HSB:=hide (show Zbh x qA es x.net.n.toNat=Zbh x ps es x.net.n.toNat by unfold Zbh Zcw;rw [fA])
 rw [HSB.out,fA] at HSP;clear HSB oA fA
 go_wp2_with fail
 refine HSP.out.mono ?_
 rintro e w3 ⟨vW,qW,rfl,rW,oW,b3⟩;clear HSP;obtain⟨Wa,Wc,rfl⟩:=Zac oW.row;have hs3:=b3.size;have BW3:=hide (BW2.out.trans (b3.mono BW2.out.size));have GL3:=hide ((b3.block _ (Zab GL2.out)).trans GL2.out);clear b3 BW2 GL2;have RW:=hide rW;have KW3:=hide oW;have TW:totQ qW<=1048576:=by have:=Zb7.tot rW;rw [Zoc];omega
 clear rW oW;have s0:=Zaa GL3.out 0;have s1:=Zaa GL3.out 1;have s2:=Zaa GL3.out 2;have s3:=Zaa GL3.out 3;have s4:=Zaa GL3.out 4;have s5:=Zaa GL3.out 5;have s6:=Zaa GL3.out 6;have s7:=Zaa GL3.out 7;simp at s0 s1 s2 s3 s4 s5 s6 s7
 go_wp2_with fail
 refine (HTS.out _ BW3.out).mono ?_
 rintro e w4 ⟨y1,y2,y3,y4,y5,qX,mX1,mX2,mX3,rfl,fX,oX,b4⟩;clear s0 s1 s2 s3 s4 s5 s6 s7;obtain⟨⟨y1,y1c,rfl⟩,⟨y2,y2c,rfl⟩,⟨y3,y3c,rfl⟩,⟨y4,y4c,rfl⟩,⟨y5,y5c,rfl⟩⟩:=oX.in.shapes;have hs4:=b4.size;have BW4:=hide (BW3.out.trans (b4.mono BW3.out.size));have GL4:=hide ((b4.block _ (Zab GL3.out)).trans GL3.out);have KW4:=hide (KW3.out.below b4 (by omega))
 clear b4 BW3 GL3 KW3;have KX4:=hide oX;have FX:=hide fX;clear oX fX;have BN:Below w4.heap.size w4 (w4.alloc (.cells #[.int .i64 x.id,.int .i64 x.boot,.int .i64 x.net.n,.slice y1 x.net.ls.length y1c,.slice y2 x.net.ts.length y2c,.slice y3 x.heard.length y3c,.slice y4 qX.length y4c,.slice y5 es.length y5c] 44)):=(Below.refl _ _).alloc (Nat.le_refl _) _;have GZN:=hide (heap_alloc_new w4 (.cells #[.int .i64 x.id,.int .i64 x.boot,.int .i64 x.net.n,.slice y1 x.net.ls.length y1c,.slice y2 x.net.ts.length y2c,.slice y3 x.heard.length y3c,.slice y4 qX.length y4c,.slice y5 es.length y5c] 44));have HIM:=hide (Zfu _ _ _ _ _ x qX es _ _ _ _ (w4.alloc (.cells #[.int .i64 x.id,.int .i64 x.boot,.int .i64 x.net.n,.slice y1 x.net.ls.length y1c,.slice y2 x.net.ts.length y2c,.slice y3 x.heard.length y3c,.slice y4 qX.length y4c,.slice y5 es.length y5c] 44)) (HGB.out _ (BW4.out.trans (BN.mono BW4.out.size))) (by have h:=HT.out;unfold Zbm totS at h |-;rw [Zjy FX.out];exact h) ((KX4.out.below BN (Nat.le_refl _)).high BN.size))
 have HSB:=hide (show Zbh x qX es x.net.n.toNat=Zbh x ps es x.net.n.toNat by unfold Zbh Zcw;rw [FX.out])
 rw [HSB.out,FX.out] at HIM;clear HSB;have HBN:=hide BN;clear BN
 go_wp2_with fail
 obtain⟨z,hz⟩:∃ z,z=w4.heap.size:=⟨_,rfl⟩;obtain⟨w5,hw5⟩:∃ W,W=w4.alloc (.cells #[.int .i64 x.id,.int .i64 x.boot,.int .i64 x.net.n,.slice y1 x.net.ls.length y1c,.slice y2 x.net.ts.length y2c,.slice y3 x.heard.length y3c,.slice y4 qX.length y4c,.slice y5 es.length y5c] 44):=⟨_,rfl⟩;rw [<-hw5] at HIM GZN HBN |-;rw [<-hz] at GZN |-;have b5:=HBN.out;have hz4:z=w4.heap.size:=hz;have HZ4:=hide hz4;clear hw5 hz hz4 HBN;have hs5:=b5.size;have BW5:=hide (BW4.out.trans (b5.mono BW4.out.size));have GL5:=hide ((b5.block _ (Zab GL4.out)).trans GL4.out);have KW5:=hide (KW4.out.below b5 (by omega))
 have KX5:=hide (KX4.out.below b5 (by omega))
 clear b5 BW4 GL4 KW4 KX4;have GZ5:=hide GZN.out;clear GZN;refine HIM.out.mono ?_
 rintro e w6 ⟨vG,qG,rfl,rG,oG,b6⟩;clear HIM;obtain⟨Ga,Gc,rfl⟩:=Zac oG.row;have hs6:=b6.size;have BW6:=hide (BW5.out.trans (b6.mono BW5.out.size));have GL6:=hide ((b6.block _ (Zab GL5.out)).trans GL5.out);have KW6:=hide (KW5.out.below b6 (by omega))
 have KX6:=hide (KX5.out.below b6 (by omega))
 have GZ6:=hide ((b6.block _ (Zab GZ5.out)).trans GZ5.out);clear b6 BW5 GL5 KW5 KX5 GZ5;have RG:=hide rG;have KG6:=hide oG;have TG:totQ qG<=1048576:=by have:=Zb7.tot rG;rw [Zoc];omega
 clear rG oG
 go_wp2_with fail
 refine (ZdD _ _ _ _ _ _ _ _ _ KG6.out KW6.out (RG.out.unique RW.out) TG (by omega) (by omega)).mono ?_
 rintro e w7 ⟨rfl,b7⟩;have hs7:=b7.size;have BW7:=hide (BW6.out.trans (b7.mono BW6.out.size));have GL7:=hide ((b7.block _ (Zab GL6.out)).trans GL6.out);have KW7:=hide (KW6.out.below b7 (by omega))
 have KX7:=hide (KX6.out.below b7 (by omega))
 have GZ7:=hide ((b7.block _ (Zab GZ6.out)).trans GZ6.out);have KG7:=hide (KG6.out.below b7 (by omega))
 clear b7 BW6 GL6 KW6 KX6 GZ6 KG6;have s0:=Zaa GL7.out 0;have s1:=Zaa GL7.out 1;have s2:=Zaa GL7.out 2;have s3:=Zaa GL7.out 3;have s4:=Zaa GL7.out 4;have s5:=Zaa GL7.out 5;have s6:=Zaa GL7.out 6;have s7:=Zaa GL7.out 7;simp at s0 s1 s2 s3 s4 s5 s6 s7
 have t0:=Zaa GZ7.out 0;have t1:=Zaa GZ7.out 1;have t2:=Zaa GZ7.out 2;have t3:=Zaa GZ7.out 3;have t4:=Zaa GZ7.out 4;have t5:=Zaa GZ7.out 5;have t6:=Zaa GZ7.out 6;have t7:=Zaa GZ7.out 7;simp at t0 t1 t2 t3 t4 t5 t6 t7
 have hzz:=Zab GZ7.out;have hww:=Zab GL7.out;have YD:=hide ((KX7.out.in.more (show w4.heap.size<=w7.heap.size by omega)).then (Below.refl w7.heap.size w7).drew)
 have HTD:=hide (HTS.out w7.drew BW7.out.drew);have HEQ:=hide (fun (u1 u2 u3 u4 u5:Value) (qs':List RP) W (hb:Below w7.drew.heap.size w7.drew W) (hf:fsts qs'=fsts ps) (hi:NodeIn W u1 u2 u3 u4 u5 x qs' es W.heap.size)=>Zlx _ _ _ _ _ u1 u2 u3 u4 u5 x qX qs' es W (by have h:=HT.out;unfold Zbm totS at h |-;rw [Zjy FX.out];exact h) (YD.out.then hb) hi (FX.out.trans hf.symm))
 clear YD
 go_wp2
 go_region_held3 (fun W=>W.cell? ⟨w.heap.size,0,none⟩=some (.int .i64 x.id)/\W.cell? ⟨w.heap.size,1,none⟩=some (.int .i64 x.boot)/\W.cell? ⟨w.heap.size,2,none⟩=some (.int .i64 x.net.n)/\W.cell? ⟨w.heap.size,3,none⟩=some (.slice a1 x.net.ls.length a1c)/\W.cell? ⟨w.heap.size,4,none⟩=some (.slice a2 x.net.ts.length a2c)/\W.cell? ⟨w.heap.size,5,none⟩=some (.slice a3 x.heard.length a3c)/\W.cell? ⟨w.heap.size,6,none⟩=some (.slice a4 ps.length a4c)/\W.cell? ⟨w.heap.size,7,none⟩=some (.slice a5 es.length a5c)/\W.cell? ⟨z,0,none⟩=some (.int .i64 x.id)/\W.cell? ⟨z,1,none⟩=some (.int .i64 x.boot)/\W.cell? ⟨z,2,none⟩=some (.int .i64 x.net.n)/\W.cell? ⟨z,3,none⟩=some (.slice y1 x.net.ls.length y1c)/\W.cell? ⟨z,4,none⟩=some (.slice y2 x.net.ts.length y2c)/\W.cell? ⟨z,5,none⟩=some (.slice y3 x.heard.length y3c)/\W.cell? ⟨z,6,none⟩=some (.slice y4 qX.length y4c)/\W.cell? ⟨z,7,none⟩=some (.slice y5 es.length y5c)) (first | go_keep | (refine ⟨?_,?_,?_,?_,?_,?_,?_,?_,?_,?_,?_,?_,?_,?_,?_,?_⟩ <;> (rw [b9.cell (Nat.lt_of_lt_of_le (by assumption) b8.size),b8.cell (by assumption)];assumption)) | (refine ⟨?_,?_,?_,?_,?_,?_,?_,?_,?_,?_,?_,?_,?_,?_,?_,?_⟩ <;> (rw [b8.cell (by assumption)];assumption))) (first | (go_at_call 7;refine HTD.out.mono ?_;rintro e w8 ⟨q1,q2,q3,q4,q5,qs',m1,m2,m3,rfl,fq',o8,b8⟩) | (go_at_call 9;refine (HEQ.out _ _ _ _ _ qs' _ b8 fq' o8.in).mono ?_;rintro e w9 ⟨rfl,b9⟩))
 have b89:Below w7.heap.size w7 w9:=(Below.refl w7.heap.size w7).drew.trans ((b8.trans (b9.mono b8.size)).mono (Nat.le_refl _));clear b8 b9 o8 fq' HTD HEQ s0 s1 s2 s3 s4 s5 s6 s7 t0 t1 t2 t3 t4 t5 t6 t7;have hs9:=b89.size;have BW9:=hide (BW7.out.trans (b89.mono BW7.out.size));have GL9:=hide ((b89.block _ (Zab GL7.out)).trans GL7.out);have KW9:=hide (KW7.out.below b89 (by omega))
 have KX9:=hide (KX7.out.below b89 (by omega))
 have GZ9:=hide ((b89.block _ (Zab GZ7.out)).trans GZ7.out);have KG9:=hide (KG7.out.below b89 (by omega))
 clear b89 BW7 GL7 KW7 KX7 GZ7 KG7;have t0:=Zaa GZ9.out 0;have t1:=Zaa GZ9.out 1;have t2:=Zaa GZ9.out 2;have t3:=Zaa GZ9.out 3;have t4:=Zaa GZ9.out 4;have t5:=Zaa GZ9.out 5;have t6:=Zaa GZ9.out 6;have t7:=Zaa GZ9.out 7;simp at t0 t1 t2 t3 t4 t5 t6 t7
 go_wp2_with fail
 refine (Zi3 _ _ _ _ _ x qX es _ _ _ _ _ w9 KX9.out (by omega) (by have h:=HT.out;unfold Zbm totS at h |-;rw [Zjy FX.out];exact h)).mono ?_
 rintro e w10 ⟨k,rfl,hk0,f10⟩;clear t0 t1 t2 t3 t4 t5 t6 t7 KX9;have hk1:¬k<0:=by omega
 clear GZ9;have hzl:=HZ4.out;have hs10:=f10.size;have BW10:=hide (BW9.out.trans (f10.below (by omega) |>.mono (by omega)))
 have GL10:=hide ((f10.block _ (Zab GL9.out) (by have:=Zab GL9.out;omega)).trans GL9.out)
 have KW10:=hide (KW9.out.frame f10 (by omega))
 have KG10:=hide (KG9.out.frame f10 (by omega))
 clear f10 BW9 GL9 KW9 KG9;clear hzl
 go_wp2_with fail
 refine (ZdD _ _ _ _ _ _ _ _ _ KG10.out KW10.out (RG.out.unique RW.out) TG (by omega) (by omega)).mono ?_
 rintro e w11 ⟨rfl,b11⟩;have hs11:=b11.size;have BW11:=hide (BW10.out.trans (b11.mono BW10.out.size));have GL11:=hide ((b11.block _ (Zab GL10.out)).trans GL10.out);have KW11:=hide (KW10.out.below b11 (by omega))
 have KG11:=hide (KG10.out.below b11 (by omega))
 clear b11 BW10 GL10 KW10 KG10
 go_wp2_with fail
 refine (ZgN _ _ _ _ 1 _ KG11.out TG (by omega) (by omega)).mono ?_
 rintro e w12 ⟨rfl,oG,f12⟩;clear KG11;have hzl:=HZ4.out;have hs12:=f12.size;have BW12:=hide (BW11.out.trans (f12.below (by omega) |>.mono (by omega)))
 have GL12:=hide ((f12.block _ (Zab GL11.out) (by have:=Zab GL11.out;omega)).trans GL11.out)
 have KW12:=hide (KW11.out.frame f12 (by omega))
 clear f12 BW11 GL11 KW11;clear hzl;have KG12:=hide oG;clear oG;have hposG:=ZoP qG;obtain⟨mG,hmG⟩:∃ mG,mG=mkQE 1 qG:=⟨_,rfl⟩;have HHD:=hide (fun W (h:ZdB W (.slice Ga qG.length Gc) (mkQL 1 qG) W.heap.size)=>ZgL (.slice Ga qG.length Gc) qG 1 W h TG (by omega) (by omega))
 rw [<-hmG] at hposG HHD |-;clear hmG
 go_wp2_with fail
 refine (HHD.out _ (KG12.out.at.more (by omega))).mono ?_
 rintro e w12b ⟨rfl,rfl⟩;have s0:=Zaa GL12.out 0;have s1:=Zaa GL12.out 1;have s2:=Zaa GL12.out 2;have s3:=Zaa GL12.out 3;have s4:=Zaa GL12.out 4;have s5:=Zaa GL12.out 5;have s6:=Zaa GL12.out 6;have s7:=Zaa GL12.out 7;simp at s0 s1 s2 s3 s4 s5 s6 s7
 go_wp2_with fail
 refine (HTS.out _ BW12.out).mono ?_
 rintro e w13 ⟨u1,u2,u3,u4,u5,qB,mB1,mB2,mB3,rfl,fB,oB,b13⟩;clear s0 s1 s2 s3 s4 s5 s6 s7;have hs13:=b13.size;have BW13:=hide (BW12.out.trans (b13.mono BW12.out.size));have GL13:=hide ((b13.block _ (Zab GL12.out)).trans GL12.out);have KW13:=hide (KW12.out.below b13 (by omega))
 have KG13:=hide (KG12.out.below b13 (by omega))
 clear b13 BW12 GL12 KW12 KG12;have HIM:=hide (Zfu _ _ _ _ _ x qB es _ _ _ _ w13 (HGB.out _ BW13.out) (by have h:=HT.out;unfold Zbm totS at h |-;rw [Zjy fB];exact h) (oB.low (Nat.le_refl _)))
 have HSB:=hide (show Zbh x qB es x.net.n.toNat=Zbh x ps es x.net.n.toNat by unfold Zbh Zcw;rw [fB])
 rw [HSB.out,fB] at HIM;clear HSB oB fB
 go_wp2_with fail
 refine HIM.out.mono ?_
 rintro e w14 ⟨vH,qH,rfl,rH,oH,b14⟩;clear HIM;obtain⟨Ha,Hc,rfl⟩:=Zac oH.row;have hs14:=b14.size;have BW14:=hide (BW13.out.trans (b14.mono BW13.out.size));have GL14:=hide ((b14.block _ (Zab GL13.out)).trans GL13.out);have KW14:=hide (KW13.out.below b14 (by omega))
 have KG14:=hide (KG13.out.below b14 (by omega))
 clear b14 BW13 GL13 KW13 KG13;have RH:=hide rH;have KH14:=hide oH;have TH:totQ qH<=1048576:=by have:=Zb7.tot rH;rw [Zoc];omega
 clear rH oH
 go_wp2_with fail
 refine (ZdD _ _ _ _ _ _ _ _ _ KH14.out KW14.out (RH.out.unique RW.out) TH (by omega) (by omega)).mono ?_
 rintro e w15 ⟨rfl,b15⟩;clear KH14;have hs15:=b15.size;have BW15:=hide (BW14.out.trans (b15.mono BW14.out.size));have GL15:=hide ((b15.block _ (Zab GL14.out)).trans GL14.out);have KW15:=hide (KW14.out.below b15 (by omega))
 have KG15:=hide (KG14.out.below b15 (by omega))
 clear b15 BW14 GL14 KW14 KG14
 go_wp2_with fail
 refine (HHD.out _ (KG15.out.at.more (by omega))).mono ?_
 rintro e w15b ⟨rfl,rfl⟩
 go_wp2
 go_ret
 exact⟨rfl,BW15.out⟩
end Go.Proofs.YtnndlmodjkplnaaGreatDoor
namespace Go.Proofs.YtnndlmodjkplnaaGreatDoor
open Go.RowKit Go.ChangeShapes Go.WideShapes

section
variable {H:Type} {enc:TypeId × Value->H} {P:Program} {w:World} {base:Nat} {spare:Nat->Bool} {held:Bool}

theorem ZmF {a:Addr}(h:a.spot=none)(j:Nat):a.add j=⟨a.block,a.off+j,none⟩:=by
 obtain⟨b,o,s⟩:=a;simp at h
 subst h;simp only [Addr.add]
 split <;> simp_all

theorem Zgl {e:TypeId}{f0 f1 f2 f3:Field}{fuel:Nat}{cs:List Value}{x:DataW H × List MemPlace}(he:P.underlying e=some (.struct #[f0,f1,f2,f3]))(ce:P.cellsOf e=4)
  (o0:f0.offset=0) (o1:f1.offset=1) (o2:f2.offset=2) (o3:f3.offset=3) (c0:P.cellsOf f0.type=1) (c1:P.cellsOf f1.type=1) (c2:P.cellsOf f2.type=1) (c3:P.cellsOf f3.type=1)
  (h:DataW.trod enc P w base spare held fuel e cs=some x):
  ∃ v0 v1 v2 v3 n y0 y1 y2 y3,cs=[v0,v1,v2,v3]/\DataW.trod enc P w base spare held n f0.type [v0]=some y0/\DataW.trod enc P w base spare held n f1.type [v1]=some y1 /\
   DataW.trod enc P w base spare held n f2.type [v2]=some y2/\DataW.trod enc P w base spare held n f3.type [v3]=some y3:=by
 obtain⟨xs,k,hk,hxy,hcl,hxl,hf⟩:=DataW.trod_struct he h;rw [ce] at hcl
 match xs,hxl,cs,hcl with
 | [y0,y1,y2,y3],_,[v0,v1,v2,v3],_=>
  have g0:=hf 0 f0 rfl;have g1:=hf 1 f1 rfl;have g2:=hf 2 f2 rfl;have g3:=hf 3 f3 rfl;simp [o0,o1,o2,o3,c0,c1,c2,c3] at g0 g1 g2 g3
  exact⟨v0,v1,v2,v3,k,y0,y1,y2,y3,rfl,g0,g1,g2,g3⟩

theorem ZdL {α:Type} [Inhabited α]{encE:α->List Value}(hsz:∀ a,(encE a).length=4){t e:TypeId}{fuel:Nat}{cs:List Value}{x:DataW H × List MemPlace}(ht:P.underlying t=some (.slice e))(ce:P.cellsOf e=4)
  (hel:∀ fuel cs x,DataW.trod enc P w base spare held fuel e cs=some x->∃ a:α,cs=encE a) (h:DataW.trod enc P w base spare held fuel t cs=some x):
  ∃ v xs,cs=[v]/\ZaD encE 4 w v xs w.heap.size/\xs.length<=maxLen:=by
 rcases Go.Deep.open_slice ht h with ⟨h0,_⟩ | ⟨a,len,cap,m,n,D,Pl,rfl,hb,hlc,hcm,hmm,_,hx⟩
 ·exact ⟨_,[],h0,⟨none,0,rfl,.inl rfl⟩,by simp⟩
 ·have hlm:len<=m:=by rw [hmm];split <;> omega
  have each:∀ i,i<len->∃ q:α,∀ r u,(encE q)[r]? = some u->w.cell? (a.add (i*4+r))=some u:=by
   intro i hi;obtain⟨cs',h1,h2⟩:=hx i (by omega)
   rw [ce] at h1;obtain⟨_,hlen,hcell⟩:=World.cells?_some h1;obtain⟨q,rfl⟩:=hel _ _ _ h2;refine⟨q,fun r u hu=>?_⟩
   have hr:r<4:=by have:=(List.getElem?_eq_some_iff.1 hu).1;rw [hsz] at this;exact this
   rw [<-Go.Deep.add_add,hcell r hr,hu]
  obtain⟨q,hq⟩:=Go.Deep.choose_lt each;refine⟨_,(List.range len).map q,rfl,?_,by simp;omega⟩
  have hl:((List.range len).map q).length=len:=by simp
  unfold ZaD ZaL;rw [hl];refine⟨_,cap,rfl,?_⟩
  by_cases hl0:len=0
  ·exact .inl hl0
  ·right
   have hsp:a.spot=none:=by
    have hu:(encE (q 0))[0]? = some ((encE (q 0))[0]'(by rw [hsz];omega)):=List.getElem?_eq_getElem _
    have:=World.cell?_spot (hq 0 (by omega) 0 _ hu)
    simpa [Addr.add] using this
   have hblk:a.block<w.heap.size:=by
    have hu:(encE (q 0))[0]? = some ((encE (q 0))[0]'(by rw [hsz];omega)):=List.getElem?_eq_getElem _
    have:=World.block_lt_of_cell? w _ (hq 0 (by omega) 0 _ hu)
    simpa [Addr.add] using this
   refine⟨a.block,a.off,by obtain ⟨b,o,s⟩:=a;simp at hsp;rw [hsp],hblk,fun j hj=>?_⟩
   have e:j=j / 4*4+j%4:=by omega
   have hd:j / 4<len:=by omega
   have hm4:j%4<4:=by omega
   have hg:=ZbF hsz ((List.range len).map q) (j / 4) (j%4) (q (j / 4)) (by simp [hd]) hm4
   have hu:(encE (q (j / 4)))[j%4]? = some ((encE (q (j / 4)))[j%4]'(by rw [hsz];exact hm4)):=List.getElem?_eq_getElem _
   have:=hq (j / 4) hd (j%4) _ hu;rw [<-e,ZmF hsp] at this;rw [this];rw [<-e] at hg;simp only [List.getD_eq_getElem?_getD,hg,hu]
   rfl
end
end Go.Proofs.YtnndlmodjkplnaaGreatDoor
namespace Go.Proofs.YtnndlmodjkplnaaGreatDoor
open Go.RowKit Go.ChangeShapes Go.WideShapes

section
variable {H:Type} {enc:TypeId × Value->H} {w:World} {base:Nat} {spare:Nat->Bool} {held:Bool}

instance:Inhabited Lk:=⟨⟨0,0,0,0⟩⟩
instance:Inhabited Th:=⟨⟨0,0,0,false⟩⟩

theorem ZnE {fuel:Nat}{cs:List Value}{x:DataW H × List MemPlace}(h:DataW.trod enc Tryz.prog w base spare held fuel 171 cs=some x):∃ l:Lk,cs=lkE l:=by
 obtain⟨v0,v1,v2,v3,n,y0,y1,y2,y3,rfl,h0,h1,h2,h3⟩:=Zgl Tryz.underlying171 (by kernel_rfl) rfl rfl rfl rfl (by kernel_rfl) (by kernel_rfl) (by kernel_rfl) (by kernel_rfl) h
 obtain⟨a,ha,_⟩:=DataW.trod_int Tryz.underlying3 h0;obtain⟨b,hb,_⟩:=DataW.trod_int Tryz.underlying3 h1;obtain⟨c,hc,_⟩:=DataW.trod_int Tryz.underlying3 h2;obtain⟨r,hr,_⟩:=DataW.trod_int Tryz.underlying3 h3;exact⟨⟨a,b,c,r⟩,by cases ha;cases hb;cases hc;cases hr;rfl⟩

theorem Zl2 {fuel:Nat}{cs:List Value}{x:DataW H × List MemPlace}(h:DataW.trod enc Tryz.prog w base spare held fuel 173 cs=some x):∃ l:Th,cs=thE l:=by
 obtain⟨v0,v1,v2,v3,n,y0,y1,y2,y3,rfl,h0,h1,h2,h3⟩:=Zgl Tryz.underlying173 (by kernel_rfl) rfl rfl rfl rfl (by kernel_rfl) (by kernel_rfl) (by kernel_rfl) (by kernel_rfl) h
 obtain⟨a,ha,_⟩:=DataW.trod_int Tryz.underlying3 h0;obtain⟨b,hb,_⟩:=DataW.trod_int Tryz.underlying3 h1;obtain⟨c,hc,_⟩:=DataW.trod_int Tryz.underlying3 h2;obtain⟨r,hr,_⟩:=DataW.trod_bool Tryz.underlying4 h3;exact⟨⟨a,b,c,r⟩,by cases ha;cases hb;cases hc;cases hr;rfl⟩

end
end Go.Proofs.YtnndlmodjkplnaaGreatDoor
namespace Go.Proofs.YtnndlmodjkplnaaGreatDoor
open Go.RowKit Go.ChangeShapes Go.WideShapes

section
variable {H:Type} {enc:TypeId × Value->H} {P:Program} {w:World} {base:Nat} {spare:Nat->Bool} {held:Bool}

theorem ZkH {a:Addr}(h:a.spot=none)(j:Nat):a.add j=⟨a.block,a.off+j,none⟩:=by
 obtain⟨b,o,s⟩:=a;simp at h
 subst h;simp only [Addr.add]
 split <;> simp_all

theorem ZoU {e:TypeId}{f0 f1:Field}{fuel:Nat}{cs:List Value}{x:DataW H × List MemPlace}(he:P.underlying e=some (.struct #[f0,f1]))(ce:P.cellsOf e=2)
  (o0:f0.offset=0) (o1:f1.offset=1) (c0:P.cellsOf f0.type=1) (c1:P.cellsOf f1.type=1)
  (h:DataW.trod enc P w base spare held fuel e cs=some x):
  ∃ v0 v1 n y0 y1,cs=[v0,v1]/\DataW.trod enc P w base spare held n f0.type [v0]=some y0/\DataW.trod enc P w base spare held n f1.type [v1]=some y1:=by
 obtain⟨xs,k,hk,hxy,hcl,hxl,hf⟩:=DataW.trod_struct he h;rw [ce] at hcl
 match xs,hxl,cs,hcl with
 | [y0,y1],_,[v0,v1],_=>
  have g0:=hf 0 f0 rfl;have g1:=hf 1 f1 rfl;simp [o0,o1,c0,c1] at g0 g1
  exact⟨v0,v1,k,y0,y1,rfl,g0,g1⟩

theorem Zh4 {α:Type} [Inhabited α]{encE:α->List Value}(hsz:∀ a,(encE a).length=2){t e:TypeId}{fuel:Nat}{cs:List Value}{x:DataW H × List MemPlace}(ht:P.underlying t=some (.slice e))(ce:P.cellsOf e=2)
  (hel:∀ fuel cs x,DataW.trod enc P w base spare held fuel e cs=some x->∃ a:α,cs=encE a) (h:DataW.trod enc P w base spare held fuel t cs=some x):
  ∃ v xs,cs=[v]/\ZaD encE 2 w v xs w.heap.size/\xs.length<=maxLen:=by
 rcases Go.Deep.open_slice ht h with ⟨h0,_⟩ | ⟨a,len,cap,m,n,D,Pl,rfl,hb,hlc,hcm,hmm,_,hx⟩
 ·exact ⟨_,[],h0,⟨none,0,rfl,.inl rfl⟩,by simp⟩
 ·have hlm:len<=m:=by rw [hmm];split <;> omega
  have each:∀ i,i<len->∃ q:α,∀ r u,(encE q)[r]? = some u->w.cell? (a.add (i*2+r))=some u:=by
   intro i hi;obtain⟨cs',h1,h2⟩:=hx i (by omega)
   rw [ce] at h1;obtain⟨_,hlen,hcell⟩:=World.cells?_some h1;obtain⟨q,rfl⟩:=hel _ _ _ h2;refine⟨q,fun r u hu=>?_⟩
   have hr:r<2:=by have:=(List.getElem?_eq_some_iff.1 hu).1;rw [hsz] at this;exact this
   rw [<-Go.Deep.add_add,hcell r hr,hu]
  obtain⟨q,hq⟩:=Go.Deep.choose_lt each;refine⟨_,(List.range len).map q,rfl,?_,by simp;omega⟩
  have hl:((List.range len).map q).length=len:=by simp
  unfold ZaD ZaL;rw [hl];refine⟨_,cap,rfl,?_⟩
  by_cases hl0:len=0
  ·exact .inl hl0
  ·right
   have hsp:a.spot=none:=by
    have hu:(encE (q 0))[0]? = some ((encE (q 0))[0]'(by rw [hsz];omega)):=List.getElem?_eq_getElem _
    have:=World.cell?_spot (hq 0 (by omega) 0 _ hu)
    simpa [Addr.add] using this
   have hblk:a.block<w.heap.size:=by
    have hu:(encE (q 0))[0]? = some ((encE (q 0))[0]'(by rw [hsz];omega)):=List.getElem?_eq_getElem _
    have:=World.block_lt_of_cell? w _ (hq 0 (by omega) 0 _ hu)
    simpa [Addr.add] using this
   refine⟨a.block,a.off,by obtain ⟨b,o,s⟩:=a;simp at hsp;rw [hsp],hblk,fun j hj=>?_⟩
   have e:j=j / 2*2+j%2:=by omega
   have hd:j / 2<len:=by omega
   have hm4:j%2<2:=by omega
   have hg:=ZbF hsz ((List.range len).map q) (j / 2) (j%2) (q (j / 2)) (by simp [hd]) hm4
   have hu:(encE (q (j / 2)))[j%2]? = some ((encE (q (j / 2)))[j%2]'(by rw [hsz];exact hm4)):=List.getElem?_eq_getElem _
   have:=hq (j / 2) hd (j%2) _ hu;rw [<-e,ZkH hsp] at this;rw [this];rw [<-e] at hg;simp only [List.getD_eq_getElem?_getD,hg,hu]
   rfl
end
end Go.Proofs.YtnndlmodjkplnaaGreatDoor
namespace Go.Proofs.YtnndlmodjkplnaaGreatDoor
open Go.RowKit Go.ChangeShapes Go.WideShapes

section
variable {H:Type} {enc:TypeId × Value->H} {w:World} {base:Nat} {spare:Nat->Bool} {held:Bool}

theorem ZnF {fuel:Nat}{cs:List Value}{x:DataW H × List MemPlace}(h:DataW.trod enc Tryz.prog w base spare held fuel 227 cs=some x):∃ l:Nr,cs=nrE l:=by
 obtain⟨v0,v1,n,y0,y1,rfl,h0,h1⟩:=ZoU Tryz.underlying227 (by kernel_rfl) rfl rfl (by kernel_rfl) (by kernel_rfl) h
 obtain⟨a,ha,_⟩:=DataW.trod_int Tryz.underlying3 h0;obtain⟨b,hb,_⟩:=DataW.trod_int Tryz.underlying3 h1;exact⟨⟨a,b⟩,by cases ha;cases hb;rfl⟩

end
end Go.Proofs.YtnndlmodjkplnaaGreatDoor
namespace Go.Proofs.YtnndlmodjkplnaaGreatDoor
open Go.RowKit Go.ChangeShapes Go.WideShapes

section
variable {H:Type} {enc:TypeId × Value->H} {P:Program} {w:World} {base:Nat} {spare:Nat->Bool} {held:Bool}

theorem ZeP {α:Type} [Inhabited α]{encE:α->List Value}{sz:Nat}(hpos:0<sz){R:α->Prop}(hsz:∀ a,(encE a).length=sz){t e:TypeId}{fuel:Nat}{cs:List Value}{x:DataW H × List MemPlace}(ht:P.underlying t=some (.slice e))(ce:P.cellsOf e=sz)
  (hel:∀ fuel cs x,DataW.trod enc P w base spare held fuel e cs=some x->∃ a:α,cs=encE a/\R a) (h:DataW.trod enc P w base spare held fuel t cs=some x):
  ∃ v xs,cs=[v]/\ZaD encE sz w v xs w.heap.size/\xs.length<=maxLen/\∀ a∈xs,R a:=by
 rcases Go.Deep.open_slice ht h with ⟨h0,_⟩ | ⟨a,len,cap,m,n,D,Pl,rfl,hb,hlc,hcm,hmm,_,hx⟩
 ·exact ⟨_,[],h0,⟨none,0,rfl,.inl rfl⟩,by simp,by simp⟩
 ·have hlm:len<=m:=by rw [hmm];split <;> omega
  have each:∀ i,i<len->∃ q:α,R q/\∀ r u,(encE q)[r]? = some u->w.cell? (a.add (i*sz+r))=some u:=by
   intro i hi;obtain⟨cs',h1,h2⟩:=hx i (by omega)
   rw [ce] at h1;obtain⟨_,hlen,hcell⟩:=World.cells?_some h1;obtain⟨q,rfl,hR⟩:=hel _ _ _ h2;refine⟨q,hR,fun r u hu=>?_⟩
   have hr:r<sz:=by have:=(List.getElem?_eq_some_iff.1 hu).1;rw [hsz] at this;exact this
   rw [<-Go.Deep.add_add,hcell r hr,hu]
  obtain⟨q,hq⟩:=Go.Deep.choose_lt each;refine⟨_,(List.range len).map q,rfl,?_,by simp;omega,fun a ha=>by obtain ⟨i,hi,rfl⟩:=List.mem_map.1 ha;exact (hq i (by simpa using hi)).1⟩
  have hl:((List.range len).map q).length=len:=by simp
  unfold ZaD ZaL;rw [hl];refine⟨_,cap,rfl,?_⟩
  by_cases hl0:len=0
  ·exact .inl hl0
  ·right
   have hsp:a.spot=none:=by
    have hu:(encE (q 0))[0]? = some ((encE (q 0))[0]'(by rw [hsz];exact hpos)):=List.getElem?_eq_getElem _
    have:=World.cell?_spot ((hq 0 (by omega)).2 0 _ hu)
    simpa [Addr.add] using this
   have hblk:a.block<w.heap.size:=by
    have hu:(encE (q 0))[0]? = some ((encE (q 0))[0]'(by rw [hsz];exact hpos)):=List.getElem?_eq_getElem _
    have:=World.block_lt_of_cell? w _ ((hq 0 (by omega)).2 0 _ hu)
    simpa [Addr.add] using this
   refine⟨a.block,a.off,by obtain ⟨b,o,s⟩:=a;simp at hsp;rw [hsp],hblk,fun j hj=>?_⟩
   have e:j=j / sz*sz+j%sz:=by rw [Nat.mul_comm];exact (Nat.div_add_mod j sz).symm
   have hd:j / sz<len:=Nat.div_lt_of_lt_mul (by rw [Nat.mul_comm];exact hj)
   have hm4:j%sz<sz:=Nat.mod_lt _ hpos;have hg:=ZbF hsz ((List.range len).map q) (j / sz) (j%sz) (q (j / sz)) (by simp [hd]) hm4
   have hu:(encE (q (j / sz)))[j%sz]? = some ((encE (q (j / sz)))[j%sz]'(by rw [hsz];exact hm4)):=List.getElem?_eq_getElem _
   have:=(hq (j / sz) hd).2 (j%sz) _ hu;rw [<-e,ZkH hsp] at this;rw [this];rw [<-e] at hg;simp only [List.getD_eq_getElem?_getD,hg,hu]
   rfl
end
end Go.Proofs.YtnndlmodjkplnaaGreatDoor
namespace Go.Proofs.YtnndlmodjkplnaaGreatDoor
open Go.RowKit Go.ChangeShapes Go.WideShapes

instance:Inhabited RP:=⟨zP⟩

section
variable {H:Type} {enc:TypeId × Value->H} {w:World} {base:Nat} {spare:Nat->Bool} {held:Bool}

set_option maxRecDepth 100000 in
theorem Zh3 {fuel:Nat}{cs:List Value}{x:DataW H × List MemPlace}(hf:DataW.trod enc Tryz.prog w base spare held fuel 119 cs=some x):
  ∃ p:RP,cs=encP p/\(ZaB w p.2 p.1.near w.heap.size/\p.1.near.length<=maxLen):=by
 obtain⟨xs,k,hk,hxy,hcl,hxl,hfl⟩:=DataW.trod_struct Tryz.underlying119 hf;have hc8:Tryz.prog.cellsOf 119=8:=by kernel_rfl
 rw [hc8] at hcl;obtain⟨v0,v1,v2,v3,v4,v5,v6,v7,rfl⟩:∃ v0 v1 v2 v3 v4 v5 v6 v7,cs=[v0,v1,v2,v3,v4,v5,v6,v7]:=by
  match cs,hcl with
  | [v0,v1,v2,v3,v4,v5,v6,v7],_=>exact ⟨v0,v1,v2,v3,v4,v5,v6,v7,rfl⟩
 have g0:=hfl 0 _ rfl;have g1:=hfl 1 _ rfl;have g2:=hfl 2 _ rfl;have g3:=hfl 3 _ rfl;have g4:=hfl 4 _ rfl;have g5:=hfl 5 _ rfl;have g6:=hfl 6 _ rfl;have g7:=hfl 7 _ rfl;have k0:Tryz.prog.cellsOf 3=1:=by kernel_rfl
 have k1:Tryz.prog.cellsOf 117=1:=by kernel_rfl
 have k2:Tryz.prog.cellsOf 4=1:=by kernel_rfl
 match xs,hxl with
 | [y0,y1,y2,y3,y4,y5,y6,y7],_=>
  simp [k0,k1,k2] at g0 g1 g2 g3 g4 g5 g6 g7
  obtain⟨z0,e0,_⟩:=DataW.trod_int Tryz.underlying3 g0;obtain⟨z1,e1,_⟩:=DataW.trod_int Tryz.underlying3 g1;obtain⟨z2,e2,_⟩:=DataW.trod_int Tryz.underlying3 g2;obtain⟨z3,e3,_⟩:=DataW.trod_int Tryz.underlying3 g3;obtain⟨z4,e4,_⟩:=DataW.trod_int Tryz.underlying3 g4;obtain⟨u5,ns,e5,hn,hnl⟩:=Zh4 (encE:=nrE) Zgj Tryz.underlying117 (by kernel_rfl) (fun _ _ _ h=>ZnF h) g5
  obtain⟨z6,e6,_⟩:=DataW.trod_int Tryz.underlying3 g6;obtain⟨z7,e7,_⟩:=DataW.trod_bool Tryz.underlying4 g7;cases e0
  cases e1
  cases e2
  cases e3
  cases e4
  cases e5
  cases e6
  cases e7
  exact⟨(⟨z0,z1,z2,z3,z4,ns,z6,z7⟩,v5),rfl,hn,hnl⟩

end
end Go.Proofs.YtnndlmodjkplnaaGreatDoor
namespace Go.Proofs.YtnndlmodjkplnaaGreatDoor
open Go.RowKit Go.ChangeShapes Go.WideShapes

section
variable {H:Type} {enc:TypeId × Value->H} {w:World} {base:Nat} {spare:Nat->Bool} {held:Bool}

theorem ZoT {fuel:Nat}{cs:List Value}{x:DataW H × List MemPlace}(h:DataW.trod enc Tryz.prog w base spare held fuel 3 cs=some x):∃ z:Int,cs=intE z/\True:=by
 obtain⟨a,ha,_⟩:=DataW.trod_int Tryz.underlying3 h;exact⟨a,ha,trivial⟩

end
end Go.Proofs.YtnndlmodjkplnaaGreatDoor
namespace Go.Proofs.YtnndlmodjkplnaaGreatDoor
open Go.RowKit Go.ChangeShapes Go.WideShapes

section
variable {H:Type} {enc:TypeId × Value->H} {w:World} {base:Nat} {spare:Nat->Bool} {held:Bool}

end
end Go.Proofs.YtnndlmodjkplnaaGreatDoor
namespace Go.Proofs.YtnndlmodjkplnaaGreatDoor
open Go.RowKit Go.ChangeShapes Go.WideShapes

section
variable {H:Type} {enc:TypeId × Value->H} {w:World} {base:Nat} {spare:Nat->Bool} {held:Bool}

set_option maxRecDepth 100000 in
theorem Zh2 {fuel:Nat}{cs:List Value}{x:DataW H × List MemPlace}(hf:DataW.trod enc Tryz.prog w base spare held fuel 25 cs=some x):
  ∃ (y:NetD) (v1 v2:Value),cs=[.int .i64 y.n,v1,v2]/\Zbf w v1 y.ls w.heap.size/\ZaP w v2 y.ts w.heap.size/\y.ls.length<=maxLen/\y.ts.length<=maxLen:=by
 obtain⟨xs,k,hk,hxy,hcl,hxl,hfl⟩:=DataW.trod_struct Tryz.underlying25 hf;have hc3:Tryz.prog.cellsOf 25=3:=by kernel_rfl
 rw [hc3] at hcl;obtain⟨v0,v1,v2,rfl⟩:∃ v0 v1 v2,cs=[v0,v1,v2]:=by
  match cs,hcl with
  | [v0,v1,v2],_=>exact ⟨v0,v1,v2,rfl⟩
 have g0:=hfl 0 _ rfl;have g1:=hfl 1 _ rfl;have g2:=hfl 2 _ rfl;have k0:Tryz.prog.cellsOf 3=1:=by kernel_rfl
 have k1:Tryz.prog.cellsOf 22=1:=by kernel_rfl
 have k2:Tryz.prog.cellsOf 23=1:=by kernel_rfl
 match xs,hxl with
 | [y0,y1,y2],_=>
  simp [k0,k1,k2] at g0 g1 g2
  obtain⟨n,hn,_⟩:=DataW.trod_int Tryz.underlying3 g0;obtain⟨u1,ls,e1,hl,hll⟩:=ZdL (encE:=lkE) Zgc Tryz.underlying22 (by kernel_rfl) (fun _ _ _ h=>ZnE h) g1
  obtain⟨u2,ts,e2,ht,htl⟩:=ZdL (encE:=thE) Zdz Tryz.underlying23 (by kernel_rfl) (fun _ _ _ h=>Zl2 h) g2
  cases hn
  cases e1
  cases e2
  exact⟨⟨n,ls,ts⟩,v1,v2,rfl,hl,ht,hll,htl⟩

end
end Go.Proofs.YtnndlmodjkplnaaGreatDoor
namespace Go.Proofs.YtnndlmodjkplnaaGreatDoor
open Go.RowKit Go.ChangeShapes Go.WideShapes

set_option linter.unusedSimpArgs false

section
variable {H:Type} {enc:TypeId × Value->H} {w:World} {base:Nat} {spare:Nat->Bool} {held:Bool}

theorem ZoS {fuel:Nat}{cs:List Value}{x:DataW H × List MemPlace}(h:DataW.trod enc Tryz.prog w base spare held fuel 89 cs=some x):∃ l:Th,cs=thE l:=by
 obtain⟨v0,v1,v2,v3,n,y0,y1,y2,y3,rfl,h0,h1,h2,h3⟩:=Zgl Tryz.underlying89 (by kernel_rfl) rfl rfl rfl rfl (by kernel_rfl) (by kernel_rfl) (by kernel_rfl) (by kernel_rfl) h
 obtain⟨a,ha,_⟩:=DataW.trod_int Tryz.underlying3 h0;obtain⟨b,hb,_⟩:=DataW.trod_int Tryz.underlying3 h1;obtain⟨c,hc,_⟩:=DataW.trod_int Tryz.underlying3 h2;obtain⟨r,hr,_⟩:=DataW.trod_bool Tryz.underlying4 h3;exact⟨⟨a,b,c,r⟩,by cases ha;cases hb;cases hc;cases hr;rfl⟩

set_option maxRecDepth 100000 in
theorem ZgR {fuel:Nat}{cs:List Value}{y:DataW H × List MemPlace}(hf:DataW.trod enc Tryz.prog w base spare held fuel 29 cs=some y):
  ∃ (x:SelfD) (qs:List RP) (v1 v2 v3 v4:Value),cs=[.int .i64 x.id,.int .i64 x.boot,.int .i64 x.net.n,v1,v2,v3,v4]/\SelfIn w v1 v2 v3 v4 x qs w.heap.size/\ZjE x qs:=by
 obtain⟨xs,k,hk,hxy,hcl,hxl,hfl⟩:=DataW.trod_struct Tryz.underlying29 hf;have hc7:Tryz.prog.cellsOf 29=7:=by kernel_rfl
 rw [hc7] at hcl;obtain⟨v0,v1,v2,v3,v4,v5,v6,rfl⟩:∃ v0 v1 v2 v3 v4 v5 v6,cs=[v0,v1,v2,v3,v4,v5,v6]:=by
  match cs,hcl with
  | [v0,v1,v2,v3,v4,v5,v6],_=>exact ⟨v0,v1,v2,v3,v4,v5,v6,rfl⟩
 have g0:=hfl 0 _ rfl;have g1:=hfl 1 _ rfl;have g2:=hfl 2 _ rfl;have g3:=hfl 3 _ rfl;have g4:=hfl 4 _ rfl;have k0:Tryz.prog.cellsOf 3=1:=by kernel_rfl
 have k1:Tryz.prog.cellsOf 25=3:=by kernel_rfl
 have k2:Tryz.prog.cellsOf 26=1:=by kernel_rfl
 have k3:Tryz.prog.cellsOf 27=1:=by kernel_rfl
 match xs,hxl with
 | [y0,y1,y2,y3,y4],_=>
  simp [Value.cells,k0,k1,k2,k3] at g0 g1 g2 g3 g4
  obtain⟨id,e0,_⟩:=DataW.trod_int Tryz.underlying3 g0;obtain⟨bt,e1,_⟩:=DataW.trod_int Tryz.underlying3 g1;obtain⟨nt,u2,u3,e2,h2,h3,l2,l3⟩:=Zh2 g2;obtain⟨u5,hs,e3,h5,l5,_⟩:=ZeP (encE:=intE) (sz:=1) (R:=fun _=>True) (by omega) ZcW Tryz.underlying26 (by kernel_rfl) (fun _ _ _ h=>ZoT h) g3
  obtain⟨u6,qs,e4,h6,l6,h7⟩:=ZeP (encE:=encP) (sz:=8) (R:=fun p:RP=>ZaB w p.2 p.1.near w.heap.size/\p.1.near.length<=maxLen) (by omega) Zdq Tryz.underlying27 (by kernel_rfl) (fun _ _ _ h=>Zh3 h) g4
  cases e0
  cases e1
  cases e2
  cases e3
  cases e4
  exact⟨⟨id,bt,nt,hs⟩,qs,v3,v4,v5,v6,rfl,⟨h2,h3,h5,⟨h6,fun p hp=>(h7 p hp).1⟩⟩,l2,l3,l5,l6,fun p hp=>(h7 p hp).2⟩

set_option maxRecDepth 100000 in
theorem ZnG {r:Reach}{b0:Nat}{v:Value}{d:DataW H}{ps:List MemPlace}(hval:Value.okWide Tryz.prog w r b0 32 v)(hd:DataW.Trod enc Tryz.prog w base spare held 32 v d ps):
  ∃ (x:SelfD) (qs:List RP) (es:List Th),Zpo w v x qs es w.heap.size/\ZjD x qs es:=by
 obtain⟨cs,rfl,hcs⟩:=okWide_struct Tryz.underlying32 hval;obtain⟨fuel,hf⟩:=hd;obtain⟨xs,k,hk,hxy,hcl,hxl,hfl⟩:=DataW.trod_struct Tryz.underlying32 hf;have hc8:Tryz.prog.cellsOf 32=8:=by kernel_rfl
 rw [hc8] at hcs hcl;obtain⟨v0,v1,v2,v3,v4,v5,v6,v7,rfl⟩:∃ v0 v1 v2 v3 v4 v5 v6 v7,cs=#[v0,v1,v2,v3,v4,v5,v6,v7]:=by
  obtain⟨l⟩:=cs
  match l,hcs with
  | [v0,v1,v2,v3,v4,v5,v6,v7],_=>exact ⟨v0,v1,v2,v3,v4,v5,v6,v7,rfl⟩
 have g0:=hfl 0 _ rfl;have g1:=hfl 1 _ rfl;have k0:Tryz.prog.cellsOf 29=7:=by kernel_rfl
 have k1:Tryz.prog.cellsOf 30=1:=by kernel_rfl
 match xs,hxl with
 | [y0,y1],_=>
  simp [Value.cells,k0,k1] at g0 g1
  obtain⟨x,qs,u1,u2,u3,u4,e0,h0,l0⟩:=ZgR g0;obtain⟨u5,es,e1,h1,l1⟩:=ZdL (encE:=thE) Zdz Tryz.underlying30 (by kernel_rfl) (fun _ _ _ h=>ZoS h) g1
  cases e0
  cases e1
  exact⟨x,qs,es,⟨_,_,_,_,_,rfl,h0,h1⟩,l0,l1⟩
end
end Go.Proofs.YtnndlmodjkplnaaGreatDoor
