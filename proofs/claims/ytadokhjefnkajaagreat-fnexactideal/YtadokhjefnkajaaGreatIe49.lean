/-
  IdealLaw
-/
import Derived.Test.YtadokhjefnkajaaGreatIe48
namespace Go.Proofs.YtadokhjefnkajaaGreat
open Go.RowKit
set_option linter.unusedSimpArgs false
set_option linter.unusedVariables false
set_option maxRecDepth 100000
set_option maxHeartbeats 8000000
theorem fnExactIdeal_walk (v0:Value)(x:NetD)(v1:Value)(bs:List Bool)(v2:Value)(zs:List Bool)(w:World)(hx:Zfy w v0 x w.heap.size/\(Lit.int .i64 x.n).wf=true/\x.ls.length<=maxLen/\x.ts.length<=maxLen)(hb:Zba w v1 bs w.heap.size/\bs.length<=maxLen)(hz:Zba w v2 zs w.heap.size/\zs.length<=maxLen):
  Calls Tryz.prog 7 #[v0,v1,v2] w fun e w'=>e=.returned (.bool true)/\Below w.heap.size w w':=by
 obtain⟨hx,_,hl,ht⟩:=hx;obtain⟨hb,hbl⟩:=hb;obtain⟨hz,hzl⟩:=hz;have hl2:(x.ls.length:Int)<=9223372036854775807:=by have:maxLen=9223372036854775807:=rfl;omega
 have ht2:(x.ts.length:Int)<=9223372036854775807:=by have:maxLen=9223372036854775807:=rfl;omega
 obtain⟨u1,u2,rfl,h1,h2⟩:=hx;obtain⟨a1,c1,rfl⟩:=h1.shape;obtain⟨a2,c2,rfl⟩:=h2.shape;obtain⟨a3,c3,rfl⟩:=hb.shape;obtain⟨a4,c4,rfl⟩:=hz.shape;have HX:=hide (show Zfy w (.agg #[.int .i64 x.n,.slice a1 x.ls.length c1,.slice a2 x.ts.length c2]) x w.heap.size from ⟨_,_,rfl,h1,h2⟩)
 have HB:=hide hb;have HZ:=hide hz;have HSZ:=hide (ZnH (.int .i64 x.n) a1 a2 x.ls.length x.ts.length c1 c2 1048576);clear h1 h2 hl ht hb hz hbl hzl;obtain⟨q,hq⟩:∃ q,q=szN 1048576 x.ls.length x.ts.length:=⟨_,rfl⟩;rw [<-hq] at HSZ;have HQ:=hide hq;clear hq;have G0:=hide (heap_alloc_new w (.cells #[.int .i64 x.n,.slice a1 x.ls.length c1,.slice a2 x.ts.length c2] 59));have A0:Below w.heap.size w (w.alloc (.cells #[.int .i64 x.n,.slice a1 x.ls.length c1,.slice a2 x.ts.length c2] 59)):=(Below.refl _ _).alloc (Nat.le_refl _) _;by_cases hbb:(1048576:Int)<(bs.length:Int)
 ·go_enter Tryz.func7,Tryz.ntmps7
  go_wp2
  go_ret
  exact⟨rfl,A0⟩
 by_cases hzz:(1048576:Int)<(zs.length:Int)
 ·go_enter Tryz.func7,Tryz.ntmps7
  go_wp2
  go_ret
  exact⟨rfl,A0⟩
 have hbl:bs.length<=1048576:=by omega
 have hzl:zs.length<=1048576:=by omega
 go_enter Tryz.func7,Tryz.ntmps7
 go_wp2_with fail
 refine (HSZ.out _ hl2 ht2 (by omega) (by omega)).mono ?_
 rintro e w1 ⟨rfl,b1⟩;have BW1:Below w.heap.size w w1:=A0.trans (b1.mono A0.size);have KZ_1:=hide ((b1.block _ (Zab G0.out)).trans G0.out);have hs0:=A0.size;have hs1:w.heap.size<w1.heap.size:=Zab KZ_1.out;clear b1 A0 G0 HSZ;by_cases hneg:q<0
 ·go_wp2
  go_ret
  exact⟨rfl,BW1⟩
 have hlen:=ZpX (by rw [<-HQ.out];exact hneg)
 have HLN:=hide hlen;clear HQ hlen;have hl3:x.ls.length<=1048576:=by have:=HLN.out;omega
 have ht3:x.ts.length<=1048576:=by have:=HLN.out;omega
 have HTN:=hide (fun W (hB:Below w.heap.size w W)=>ZnM _ x W hl3 ht3 (HX.out.then hB))
 have HTB:=hide (fun W (hB:Below w.heap.size w W)=>Zjj _ bs W hbl (ZaE.then HB.out hB))
 have HTZ:=hide (fun W (hB:Below w.heap.size w W)=>Zjj _ zs W hzl (ZaE.then HZ.out hB))
 clear HX HB HZ hl2 ht2;have HSP:=hide (fun v1 v2 y z W h1 h2 h3 h4=>Zki v1 v2 y z x bs zs W hl3 ht3 hbl hzl h1 h2 h3 h4)
 have HIM:=hide (fun v1 v2 y z W h1 h2 h3 h4=>ZjP v1 v2 y z x bs zs W hl3 ht3 hbl hzl h1 h2 h3 h4)
 obtain⟨B,hB⟩:∃ B,B=ZcX x bs zs:=⟨_,rfl⟩;rw [<-hB] at HSP HIM;clear hB;have s0:=Zaa KZ_1.out 0;have s1:=Zaa KZ_1.out 1;have s2:=Zaa KZ_1.out 2;simp only [List.getElem?_toArray,List.getElem?_cons_succ,List.getElem?_cons_zero] at s0 s1 s2
 go_wp2_with fail
 refine (HTN.out _ BW1).mono ?_
 rintro e w2 ⟨pA,rA,rfl,oa,ob,b2⟩;obtain⟨paA,pcA,rfl⟩:=Zac oa;obtain⟨raA,rcA,rfl⟩:=Zac ob;clear s0 s1 s2;have hs2:=b2.size;have BW2:Below w.heap.size w w2:=BW1.trans (b2.mono BW1.size);have KZ_2:=hide ((b2.block _ (Zab KZ_1.out)).trans KZ_1.out);clear b2 BW1 KZ_1;have KAa_2:=hide (RowOwn.of oa);have KAb_2:=hide (RowOwn.of ob);clear oa ob
 go_wp2_with fail
 refine (HTB.out _ BW2).mono ?_
 rintro e w3 ⟨yB,rfl,oy,b3⟩;obtain⟨yaB,ycB,rfl⟩:=Zac oy;have hs3:=b3.size;have BW3:Below w.heap.size w w3:=BW2.trans (b3.mono BW2.size);have KZ_3:=hide ((b3.block _ (Zab KZ_2.out)).trans KZ_2.out);have KAa_3:=hide (KAa_2.out.below b3 (by omega))
 have KAb_3:=hide (KAb_2.out.below b3 (by omega))
 clear b3 BW2 KZ_2 KAa_2 KAb_2;have KB_3:=hide (RowOwn.of oy);clear oy
 go_wp2_with fail
 refine (HTZ.out _ BW3).mono ?_
 rintro e w4 ⟨yC,rfl,oy,b4⟩;obtain⟨yaC,ycC,rfl⟩:=Zac oy;have hs4:=b4.size;have BW4:Below w.heap.size w w4:=BW3.trans (b4.mono BW3.size);have KZ_4:=hide ((b4.block _ (Zab KZ_3.out)).trans KZ_3.out);have KAa_4:=hide (KAa_3.out.below b4 (by omega))
 have KAb_4:=hide (KAb_3.out.below b4 (by omega))
 have KB_4:=hide (KB_3.out.below b4 (by omega))
 clear b4 BW3 KZ_3 KAa_3 KAb_3 KB_3;have KC_4:=hide (RowOwn.of oy);clear oy
 go_wp2_with fail
 refine (HSP.out _ _ _ _ _ (Zaj KAa_4.out.row (Nat.zero_le _)) (Zap KAb_4.out.row) (Zap KB_4.out.row) (Zap KC_4.out.row)).mono ?_
 rintro e w5 ⟨oW,qW,rfl,fW,tW,kW,b5⟩;obtain⟨oaW,ocW,rfl⟩:=Zac kW.row;have hs5:=b5.size;have BW5:Below w.heap.size w w5:=BW4.trans (b5.mono BW4.size);have KZ_5:=hide ((b5.block _ (Zab KZ_4.out)).trans KZ_4.out);have KAa_5:=hide (KAa_4.out.below b5 (by omega))
 have KAb_5:=hide (KAb_4.out.below b5 (by omega))
 have KB_5:=hide (KB_4.out.below b5 (by omega))
 have KC_5:=hide (KC_4.out.below b5 (by omega))
 clear b5 BW4 KZ_4 KAa_4 KAb_4 KB_4 KC_4;have KW_5:=hide (kW);have FW:=hide fW;have TW:tot qW<=1048576:=by omega
 clear kW fW tW;clear KAa_5;clear KAb_5;clear KB_5;clear KC_5;have s0:=Zaa KZ_5.out 0;have s1:=Zaa KZ_5.out 1;have s2:=Zaa KZ_5.out 2;simp only [List.getElem?_toArray,List.getElem?_cons_succ,List.getElem?_cons_zero] at s0 s1 s2
 go_wp2_with fail
 refine (HTN.out _ BW5).mono ?_
 rintro e w6 ⟨pX,rX,rfl,oa,ob,b6⟩;obtain⟨paX,pcX,rfl⟩:=Zac oa;obtain⟨raX,rcX,rfl⟩:=Zac ob;clear s0 s1 s2;have hs6:=b6.size;have BW6:Below w.heap.size w w6:=BW5.trans (b6.mono BW5.size);have KZ_6:=hide ((b6.block _ (Zab KZ_5.out)).trans KZ_5.out);have KW_6:=hide (KW_5.out.below b6 (by omega))
 clear b6 BW5 KZ_5 KW_5;have KXa_6:=hide (RowOwn.of oa);have KXb_6:=hide (RowOwn.of ob);clear oa ob;have b7:Below w6.heap.size w6 (w6.alloc (.cells #[.int .i64 x.n,.slice paX x.ls.length pcX,.slice raX x.ts.length rcX] 27)):=(Below.refl _ _).alloc (Nat.le_refl _) _;have gb:=heap_alloc_new w6 (.cells #[.int .i64 x.n,.slice paX x.ls.length pcX,.slice raX x.ts.length rcX] 27);obtain⟨w7,hw7⟩:∃ W,W=w6.alloc (.cells #[.int .i64 x.n,.slice paX x.ls.length pcX,.slice raX x.ts.length rcX] 27):=⟨_,rfl⟩;rw [<-hw7] at b7 gb;have hs7:=b7.size;have BW7:Below w.heap.size w w7:=BW6.trans (b7.mono BW6.size);have KZ_7:=hide ((b7.block _ (Zab KZ_6.out)).trans KZ_6.out);have KW_7:=hide (KW_6.out.below b7 (by omega))
 have KXa_7:=hide (KXa_6.out.below b7 (by omega))
 have KXb_7:=hide (KXb_6.out.below b7 (by omega))
 clear b7 BW6 KZ_6 KW_6 KXa_6 KXb_6;have KV_7:=hide (gb);clear gb
 go_wp2_with fail
 rw [<-hw7];clear hw7;refine (HTB.out _ BW7).mono ?_
 rintro e w8 ⟨yY,rfl,oy,b8⟩;obtain⟨yaY,ycY,rfl⟩:=Zac oy;have hs8:=b8.size;have BW8:Below w.heap.size w w8:=BW7.trans (b8.mono BW7.size);have KZ_8:=hide ((b8.block _ (Zab KZ_7.out)).trans KZ_7.out);have KW_8:=hide (KW_7.out.below b8 (by omega))
 have KXa_8:=hide (KXa_7.out.below b8 (by omega))
 have KXb_8:=hide (KXb_7.out.below b8 (by omega))
 have KV_8:=hide ((b8.block _ (Zab KV_7.out)).trans KV_7.out);clear b8 BW7 KZ_7 KW_7 KXa_7 KXb_7 KV_7;have KY_8:=hide (RowOwn.of oy);clear oy
 go_wp2_with fail
 refine (HTZ.out _ BW8).mono ?_
 rintro e w9 ⟨yQ,rfl,oy,b9⟩;obtain⟨yaQ,ycQ,rfl⟩:=Zac oy;have hs9:=b9.size;have BW9:Below w.heap.size w w9:=BW8.trans (b9.mono BW8.size);have KZ_9:=hide ((b9.block _ (Zab KZ_8.out)).trans KZ_8.out);have KW_9:=hide (KW_8.out.below b9 (by omega))
 have KXa_9:=hide (KXa_8.out.below b9 (by omega))
 have KXb_9:=hide (KXb_8.out.below b9 (by omega))
 have KV_9:=hide ((b9.block _ (Zab KV_8.out)).trans KV_8.out);have KY_9:=hide (KY_8.out.below b9 (by omega))
 clear b9 BW8 KZ_8 KW_8 KXa_8 KXb_8 KV_8 KY_8;have KQ_9:=hide (RowOwn.of oy);clear oy;have s0:=Zaa KV_9.out 0;have s1:=Zaa KV_9.out 1;have s2:=Zaa KV_9.out 2;simp only [List.getElem?_toArray,List.getElem?_cons_succ,List.getElem?_cons_zero] at s0 s1 s2
 go_wp2_with fail
 refine (HIM.out _ _ _ _ _ (Zaj KXa_9.out.row (Nat.zero_le _)) (Zap KXb_9.out.row) (Zap KY_9.out.row) (Zap KQ_9.out.row)).mono ?_
 rintro e w10 ⟨oG,qG,rfl,fG,tG,kG,b10⟩;obtain⟨oaG,ocG,rfl⟩:=Zac kG.row;clear s0 s1 s2;have hs10:=b10.size;have BW10:Below w.heap.size w w10:=BW9.trans (b10.mono BW9.size);have KZ_10:=hide ((b10.block _ (Zab KZ_9.out)).trans KZ_9.out);have KW_10:=hide (KW_9.out.below b10 (by omega))
 have KXa_10:=hide (KXa_9.out.below b10 (by omega))
 have KXb_10:=hide (KXb_9.out.below b10 (by omega))
 have KV_10:=hide ((b10.block _ (Zab KV_9.out)).trans KV_9.out);have KY_10:=hide (KY_9.out.below b10 (by omega))
 have KQ_10:=hide (KQ_9.out.below b10 (by omega))
 clear b10 BW9 KZ_9 KW_9 KXa_9 KXb_9 KV_9 KY_9 KQ_9;have KG_10:=hide (kG);have FG:=hide fG;have TG:tot qG<=1048576:=by omega
 clear kG fG tG
 go_wp2_with fail
 refine (Zfb _ _ _ _ _ _ _ _ _ KG_10.out KW_10.out (FG.out.trans FW.out.symm) TG (by omega) (by omega)).mono ?_
 rintro e w11 ⟨rfl,b11⟩;have hs11:=b11.size;have BW11:Below w.heap.size w w11:=BW10.trans (b11.mono BW10.size);have KZ_11:=hide ((b11.block _ (Zab KZ_10.out)).trans KZ_10.out);have KW_11:=hide (KW_10.out.below b11 (by omega))
 have KXa_11:=hide (KXa_10.out.below b11 (by omega))
 have KXb_11:=hide (KXb_10.out.below b11 (by omega))
 have KV_11:=hide ((b11.block _ (Zab KV_10.out)).trans KV_10.out);have KY_11:=hide (KY_10.out.below b11 (by omega))
 have KQ_11:=hide (KQ_10.out.below b11 (by omega))
 have KG_11:=hide (KG_10.out.below b11 (by omega))
 clear b11 BW10 KZ_10 KW_10 KXa_10 KXb_10 KV_10 KY_10 KQ_10 KG_10;have s0:=Zaa KV_11.out 0;have s1:=Zaa KV_11.out 1;have s2:=Zaa KV_11.out 2;simp only [List.getElem?_toArray,List.getElem?_cons_succ,List.getElem?_cons_zero] at s0 s1 s2
 have t0:=Zaa KZ_11.out 0;have t1:=Zaa KZ_11.out 1;have t2:=Zaa KZ_11.out 2;simp only [List.getElem?_toArray,List.getElem?_cons_succ,List.getElem?_cons_zero] at t0 t1 t2
 have lt1:w6.heap.size<w11.heap.size:=Zab KV_11.out;have lt0:w.heap.size<w11.heap.size:=Zab KZ_11.out
 go_wp2
 refine Zag (S:=(fun (W:World)=>W.cell? ⟨w6.heap.size,0,none⟩=some (.int .i64 x.n)/\W.cell? ⟨w6.heap.size,1,none⟩=some (.slice paX x.ls.length pcX)/\W.cell? ⟨w6.heap.size,2,none⟩=some (.slice raX x.ts.length rcX)/\W.cell? ⟨w.heap.size,0,none⟩=some (.int .i64 x.n)/\W.cell? ⟨w.heap.size,1,none⟩=some (.slice a1 x.ls.length c1)/\W.cell? ⟨w.heap.size,2,none⟩=some (.slice a2 x.ts.length c2))) (by kernel_rfl) 5 rfl ⟨s0,s1,s2,t0,t1,t2⟩ (fun ops hops hHeld=>?_)
 iterate 2
  refine Zar 5 ?_ ?_ ?_ (by rw [hops.out];kernel_rfl) ?_ ?_ (by assumption) ?_
  rotate_left 2
  ·rw [hops.out];simp only [getS,Nat.reduceSub,Nat.reduceAdd];rfl
  ·intro W hW;(try dsimp only at hW);go_simp <;> with_reducible rfl
  ·exact fun _ _ _=>id
  try simp only [putS]
 refine Zak 2 (oi:=?_) ?_ (by rw [hops.out];kernel_rfl) ?_ ?_
 rotate_left 1
 ·rw [hops.out];simp only [getS];rfl
 ·rw [hops.out];kernel_rfl
 intro K hK
 go_simp
 refine (HTN.out w11.drew BW11.drew).mono ?_
 rintro e w12 ⟨pN,rN,rfl,oa,ob,b12⟩;obtain⟨paN,pcN,rfl⟩:=Zac oa;obtain⟨raN,rcN,rfl⟩:=Zac ob;refine hK.out _ _ ?_ (fun hHeld=>?_)
 ·obtain ⟨m0,m1,m2,m3,m4,m5⟩:=hHeld
  exact⟨(b12.cell lt1).trans m0,(b12.cell lt1).trans m1,(b12.cell lt1).trans m2,(b12.cell lt0).trans m3,(b12.cell lt0).trans m4,(b12.cell lt0).trans m5⟩
 clear hK K
 try simp only [putS]
 have b12d:Below w11.heap.size w11 w12:=(Below.refl _ _).drew.trans (b12.mono (Nat.le_refl _));have OAN:=hide oa;have OBN:=hide ob;clear oa ob;have hd12:w11.drew.heap.size=w11.heap.size:=rfl;have eqn:=hide (ZmA _ _ _ _ x _ _ _ _ _ _ _ _ w12 (KXa_11.out.below b12d (by omega)) (KXb_11.out.below b12d (by omega)) (RowOwn.of OAN.out) (RowOwn.of OBN.out) HLN.out)
 refine Zak 3 (oi:=?_) ?_ (by rw [hops.out];kernel_rfl) ?_ ?_
 rotate_left 1
 ·rw [hops.out];simp only [getS];rfl
 ·rw [hops.out];kernel_rfl
 intro K hK
 go_simp
 refine eqn.out.mono ?_
 rintro e w13 ⟨rfl,b13⟩;refine hK.out _ _ ?_ (fun hHeld=>?_)
 ·obtain ⟨m0,m1,m2,m3,m4,m5⟩:=hHeld
  exact⟨(b13.cell (Nat.lt_of_lt_of_le lt1 b12d.size)).trans m0,(b13.cell (Nat.lt_of_lt_of_le lt1 b12d.size)).trans m1,(b13.cell (Nat.lt_of_lt_of_le lt1 b12d.size)).trans m2,(b13.cell (Nat.lt_of_lt_of_le lt0 b12d.size)).trans m3,(b13.cell (Nat.lt_of_lt_of_le lt0 b12d.size)).trans m4,(b13.cell (Nat.lt_of_lt_of_le lt0 b12d.size)).trans m5⟩
 clear hK K
 try simp only [putS]
 refine ZaP 4 ?_ ?_ ?_ (by rw [hops.out];kernel_rfl) ?_ ?_ (by assumption) ?_
 rotate_left 2
 ·rw [hops.out];simp only [getS];rfl
 ·intro W hW;(try dsimp only at hW);go_simp <;> with_reducible rfl
 ·exact fun _ _ _=>id
 try simp only [putS]
 refine wpAnyH_done (by rw [hops.out];kernel_rfl) ?_ _
 clear hops ops;have b12e:Below w11.heap.size w11 w13:=b12d.trans (b13.mono b12d.size);clear b12 b13 b12d OAN OBN eqn hd12 s0 s1 s2 t0 t1 t2 hHeld lt0 lt1;have b12:=b12e;clear b12e;have hs13:=b12.size;have BW13:Below w.heap.size w w13:=BW11.trans (b12.mono BW11.size);have KZ_13:=hide ((b12.block _ (Zab KZ_11.out)).trans KZ_11.out);have KW_13:=hide (KW_11.out.below b12 (by omega))
 have KXa_13:=hide (KXa_11.out.below b12 (by omega))
 have KXb_13:=hide (KXb_11.out.below b12 (by omega))
 have KV_13:=hide ((b12.block _ (Zab KV_11.out)).trans KV_11.out);have KY_13:=hide (KY_11.out.below b12 (by omega))
 have KQ_13:=hide (KQ_11.out.below b12 (by omega))
 have KG_13:=hide (KG_11.out.below b12 (by omega))
 clear b12 BW11 KZ_11 KW_11 KXa_11 KXb_11 KV_11 KY_11 KQ_11 KG_11
 go_wp2_with fail
 refine (HTB.out _ BW13).mono ?_
 rintro e w14 ⟨yD,rfl,oy,b14⟩;obtain⟨yaD,ycD,rfl⟩:=Zac oy;have hs14:=b14.size;have BW14:Below w.heap.size w w14:=BW13.trans (b14.mono BW13.size);have KZ_14:=hide ((b14.block _ (Zab KZ_13.out)).trans KZ_13.out);have KW_14:=hide (KW_13.out.below b14 (by omega))
 have KXa_14:=hide (KXa_13.out.below b14 (by omega))
 have KXb_14:=hide (KXb_13.out.below b14 (by omega))
 have KV_14:=hide ((b14.block _ (Zab KV_13.out)).trans KV_13.out);have KY_14:=hide (KY_13.out.below b14 (by omega))
 have KQ_14:=hide (KQ_13.out.below b14 (by omega))
 have KG_14:=hide (KG_13.out.below b14 (by omega))
 clear b14 BW13 KZ_13 KW_13 KXa_13 KXb_13 KV_13 KY_13 KQ_13 KG_13;have KD_14:=hide (RowOwn.of oy);clear oy
 go_wp2_with fail
 refine (ZiD _ _ _ _ _ _ _ _ KY_14.out KD_14.out hbl).mono ?_
 rintro e w15 ⟨rfl,b15⟩;have hs15:=b15.size;have BW15:Below w.heap.size w w15:=BW14.trans (b15.mono BW14.size);have KZ_15:=hide ((b15.block _ (Zab KZ_14.out)).trans KZ_14.out);have KW_15:=hide (KW_14.out.below b15 (by omega))
 have KXa_15:=hide (KXa_14.out.below b15 (by omega))
 have KXb_15:=hide (KXb_14.out.below b15 (by omega))
 have KV_15:=hide ((b15.block _ (Zab KV_14.out)).trans KV_14.out);have KY_15:=hide (KY_14.out.below b15 (by omega))
 have KQ_15:=hide (KQ_14.out.below b15 (by omega))
 have KG_15:=hide (KG_14.out.below b15 (by omega))
 have KD_15:=hide (KD_14.out.below b15 (by omega))
 clear b15 BW14 KZ_14 KW_14 KXa_14 KXb_14 KV_14 KY_14 KQ_14 KG_14 KD_14;clear KD_15
 go_wp2_with fail
 refine (HTZ.out _ BW15).mono ?_
 rintro e w16 ⟨yE,rfl,oy,b16⟩;obtain⟨yaE,ycE,rfl⟩:=Zac oy;have hs16:=b16.size;have BW16:Below w.heap.size w w16:=BW15.trans (b16.mono BW15.size);have KZ_16:=hide ((b16.block _ (Zab KZ_15.out)).trans KZ_15.out);have KW_16:=hide (KW_15.out.below b16 (by omega))
 have KXa_16:=hide (KXa_15.out.below b16 (by omega))
 have KXb_16:=hide (KXb_15.out.below b16 (by omega))
 have KV_16:=hide ((b16.block _ (Zab KV_15.out)).trans KV_15.out);have KY_16:=hide (KY_15.out.below b16 (by omega))
 have KQ_16:=hide (KQ_15.out.below b16 (by omega))
 have KG_16:=hide (KG_15.out.below b16 (by omega))
 clear b16 BW15 KZ_15 KW_15 KXa_15 KXb_15 KV_15 KY_15 KQ_15 KG_15;have KE_16:=hide (RowOwn.of oy);clear oy
 go_wp2_with fail
 refine (ZiD _ _ _ _ _ _ _ _ KQ_16.out KE_16.out hzl).mono ?_
 rintro e w17 ⟨rfl,b17⟩;have hs17:=b17.size;have BW17:Below w.heap.size w w17:=BW16.trans (b17.mono BW16.size);have KZ_17:=hide ((b17.block _ (Zab KZ_16.out)).trans KZ_16.out);have KW_17:=hide (KW_16.out.below b17 (by omega))
 have KXa_17:=hide (KXa_16.out.below b17 (by omega))
 have KXb_17:=hide (KXb_16.out.below b17 (by omega))
 have KV_17:=hide ((b17.block _ (Zab KV_16.out)).trans KV_16.out);have KY_17:=hide (KY_16.out.below b17 (by omega))
 have KQ_17:=hide (KQ_16.out.below b17 (by omega))
 have KG_17:=hide (KG_16.out.below b17 (by omega))
 have KE_17:=hide (KE_16.out.below b17 (by omega))
 clear b17 BW16 KZ_16 KW_16 KXa_16 KXb_16 KV_16 KY_16 KQ_16 KG_16 KE_16;clear KE_17;have s0:=Zaa KV_17.out 0;have s1:=Zaa KV_17.out 1;have s2:=Zaa KV_17.out 2;simp only [List.getElem?_toArray,List.getElem?_cons_succ,List.getElem?_cons_zero] at s0 s1 s2
 go_wp2_with fail
 refine (Zow x.n _ _ _ _ x.ls x.ts 1 _ KXa_17.out KXb_17.out HLN.out (by omega) (by omega)).mono ?_
 rintro e w18 ⟨⟨m1,rfl,hm1,hm1b⟩,f18⟩;clear s0 s1 s2;clear KXa_17;clear KXb_17;clear KV_17;have hs18:=f18.size;have BW18:Below w.heap.size w w18:=BW17.trans ((f18.below (by omega)).mono (by omega))
 have KZ_18:=hide ((f18.block _ (Zab KZ_17.out) (by omega)).trans KZ_17.out)
 have KW_18:=hide (KW_17.out.frame f18 (by omega))
 have KY_18:=hide (KY_17.out.frame f18 (by omega))
 have KQ_18:=hide (KQ_17.out.frame f18 (by omega))
 have KG_18:=hide (KG_17.out.frame f18 (by omega))
 clear f18 BW17 KZ_17 KW_17 KY_17 KQ_17 KG_17
 go_wp2_with fail
 refine (ZkM _ _ _ bs m1 _ KY_18.out hbl hm1 (by omega)).mono ?_
 rintro e w19 ⟨⟨m2,rfl,hm2,hm2b⟩,f19⟩;clear KY_18;have hs19:=f19.size;have BW19:Below w.heap.size w w19:=BW18.trans ((f19.below (by omega)).mono (by omega))
 have KZ_19:=hide ((f19.block _ (Zab KZ_18.out) (by omega)).trans KZ_18.out)
 have KW_19:=hide (KW_18.out.frame f19 (by omega))
 have KQ_19:=hide (KQ_18.out.frame f19 (by omega))
 have KG_19:=hide (KG_18.out.frame f19 (by omega))
 clear f19 BW18 KZ_18 KW_18 KQ_18 KG_18
 go_wp2_with fail
 refine (ZkM _ _ _ zs m2 _ KQ_19.out hzl hm2 (by omega)).mono ?_
 rintro e w20 ⟨⟨m3,rfl,hm3,hm3b⟩,f20⟩;clear KQ_19;have hs20:=f20.size;have BW20:Below w.heap.size w w20:=BW19.trans ((f20.below (by omega)).mono (by omega))
 have KZ_20:=hide ((f20.block _ (Zab KZ_19.out) (by omega)).trans KZ_19.out)
 have KW_20:=hide (KW_19.out.frame f20 (by omega))
 have KG_20:=hide (KG_19.out.frame f20 (by omega))
 clear f20 BW19 KZ_19 KW_19 KG_19;have hm3n:¬m3<0:=by omega
 go_wp2_with fail
 refine (Zfb _ _ _ _ _ _ _ _ _ KG_20.out KW_20.out (FG.out.trans FW.out.symm) TG (by omega) (by omega)).mono ?_
 rintro e w21 ⟨rfl,b21⟩;have hs21:=b21.size;have BW21:Below w.heap.size w w21:=BW20.trans (b21.mono BW20.size);have KZ_21:=hide ((b21.block _ (Zab KZ_20.out)).trans KZ_20.out);have KW_21:=hide (KW_20.out.below b21 (by omega))
 have KG_21:=hide (KG_20.out.below b21 (by omega))
 clear b21 BW20 KZ_20 KW_20 KG_20
 go_wp2_with fail
 refine (Zgd _ _ _ _ 1 _ KG_21.out TG (by omega) (by omega)).mono ?_
 rintro e w22 ⟨rfl,oG,f22⟩;clear KG_21;have hs22:=f22.size;have BW22:Below w.heap.size w w22:=BW21.trans ((f22.below (by omega)).mono (by omega))
 have KZ_22:=hide ((f22.block _ (Zab KZ_21.out) (by omega)).trans KZ_21.out)
 have KW_22:=hide (KW_21.out.frame f22 (by omega))
 clear f22 BW21 KZ_21 KW_21;have KG_22:=hide (oG);clear oG;have hposG:=ZpM qG
 go_wp2_with fail
 refine (ZiN _ _ _ _ _ KG_22.out TG (by omega)).mono ?_
 rintro e w23 ⟨rfl,rfl⟩;have s0:=Zaa KZ_22.out 0;have s1:=Zaa KZ_22.out 1;have s2:=Zaa KZ_22.out 2;simp only [List.getElem?_toArray,List.getElem?_cons_succ,List.getElem?_cons_zero] at s0 s1 s2
 go_wp2_with fail
 refine (HTN.out _ BW22).mono ?_
 rintro e w23 ⟨pH,rH,rfl,oa,ob,b23⟩;obtain⟨paH,pcH,rfl⟩:=Zac oa;obtain⟨raH,rcH,rfl⟩:=Zac ob;clear s0 s1 s2;have hs23:=b23.size;have BW23:Below w.heap.size w w23:=BW22.trans (b23.mono BW22.size);have KZ_23:=hide ((b23.block _ (Zab KZ_22.out)).trans KZ_22.out);have KW_23:=hide (KW_22.out.below b23 (by omega))
 have KG_23:=hide (KG_22.out.below b23 (by omega))
 clear b23 BW22 KZ_22 KW_22 KG_22;have KHa_23:=hide (RowOwn.of oa);have KHb_23:=hide (RowOwn.of ob);clear oa ob
 go_wp2_with fail
 refine (HTB.out _ BW23).mono ?_
 rintro e w24 ⟨yI,rfl,oy,b24⟩;obtain⟨yaI,ycI,rfl⟩:=Zac oy;have hs24:=b24.size;have BW24:Below w.heap.size w w24:=BW23.trans (b24.mono BW23.size);have KZ_24:=hide ((b24.block _ (Zab KZ_23.out)).trans KZ_23.out);have KW_24:=hide (KW_23.out.below b24 (by omega))
 have KG_24:=hide (KG_23.out.below b24 (by omega))
 have KHa_24:=hide (KHa_23.out.below b24 (by omega))
 have KHb_24:=hide (KHb_23.out.below b24 (by omega))
 clear b24 BW23 KZ_23 KW_23 KG_23 KHa_23 KHb_23;have KI_24:=hide (RowOwn.of oy);clear oy
 go_wp2_with fail
 refine (HTZ.out _ BW24).mono ?_
 rintro e w25 ⟨yJ,rfl,oy,b25⟩;obtain⟨yaJ,ycJ,rfl⟩:=Zac oy;have hs25:=b25.size;have BW25:Below w.heap.size w w25:=BW24.trans (b25.mono BW24.size);have KZ_25:=hide ((b25.block _ (Zab KZ_24.out)).trans KZ_24.out);have KW_25:=hide (KW_24.out.below b25 (by omega))
 have KG_25:=hide (KG_24.out.below b25 (by omega))
 have KHa_25:=hide (KHa_24.out.below b25 (by omega))
 have KHb_25:=hide (KHb_24.out.below b25 (by omega))
 have KI_25:=hide (KI_24.out.below b25 (by omega))
 clear b25 BW24 KZ_24 KW_24 KG_24 KHa_24 KHb_24 KI_24;have KJ_25:=hide (RowOwn.of oy);clear oy
 go_wp2_with fail
 refine (HIM.out _ _ _ _ _ (Zaj KHa_25.out.row (Nat.zero_le _)) (Zap KHb_25.out.row) (Zap KI_25.out.row) (Zap KJ_25.out.row)).mono ?_
 rintro e w26 ⟨oR,qR,rfl,fR,tR,kR,b26⟩;obtain⟨oaR,ocR,rfl⟩:=Zac kR.row;have hs26:=b26.size;have BW26:Below w.heap.size w w26:=BW25.trans (b26.mono BW25.size);have KZ_26:=hide ((b26.block _ (Zab KZ_25.out)).trans KZ_25.out);have KW_26:=hide (KW_25.out.below b26 (by omega))
 have KG_26:=hide (KG_25.out.below b26 (by omega))
 have KHa_26:=hide (KHa_25.out.below b26 (by omega))
 have KHb_26:=hide (KHb_25.out.below b26 (by omega))
 have KI_26:=hide (KI_25.out.below b26 (by omega))
 have KJ_26:=hide (KJ_25.out.below b26 (by omega))
 clear b26 BW25 KZ_25 KW_25 KG_25 KHa_25 KHb_25 KI_25 KJ_25;have KR_26:=hide (kR);have FR:=hide fR;have TR:tot qR<=1048576:=by omega
 clear kR fR tR;clear KHa_26;clear KHb_26;clear KI_26;clear KJ_26
 go_wp2_with fail
 refine (Zfb _ _ _ _ _ _ _ _ _ KR_26.out KW_26.out (FR.out.trans FW.out.symm) TR (by omega) (by omega)).mono ?_
 rintro e w27 ⟨rfl,b27⟩;have hs27:=b27.size;have BW27:Below w.heap.size w w27:=BW26.trans (b27.mono BW26.size);have KZ_27:=hide ((b27.block _ (Zab KZ_26.out)).trans KZ_26.out);have KW_27:=hide (KW_26.out.below b27 (by omega))
 have KG_27:=hide (KG_26.out.below b27 (by omega))
 have KR_27:=hide (KR_26.out.below b27 (by omega))
 clear b27 BW26 KZ_26 KW_26 KG_26 KR_26
 go_wp2_with fail
 refine (ZiN _ _ _ _ _ KG_27.out TG (by omega)).mono ?_
 rintro e w28 ⟨rfl,rfl⟩
 go_wp2
 go_ret
 exact⟨rfl,BW27⟩
end Go.Proofs.YtadokhjefnkajaaGreat
