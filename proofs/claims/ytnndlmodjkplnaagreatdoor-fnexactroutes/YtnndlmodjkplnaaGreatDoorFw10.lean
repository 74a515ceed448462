/-
  NodeO
-/
import Derived.Test.YtnndlmodjkplnaaGreatDoorFw7
import Derived.Test.YtnndlmodjkplnaaGreatDoorFw9
import Derived.Laws.CopyOwn
namespace Go.Proofs.YtnndlmodjkplnaaGreatDoor
open Go.RowKit
set_option linter.unusedSimpArgs false
set_option linter.unusedVariables false
set_option maxRecDepth 100000
set_option maxHeartbeats 8000000
def Zce (w:World):Prop:=w.cell? ⟨0,0,none⟩=some (.iface 176 (.agg #[.pointer (some ⟨1,66,none⟩)]))
theorem Zce.below {w W:World}{B:Nat}(h:Zce w)(hb:Below B w W)(h0:0<B):Zce W:=by
 unfold Zce at *;rw [hb.cell (p:=⟨0,0,none⟩) h0];exact h
theorem Zce.pos {w:World}(h:Zce w):0<w.heap.size:=by
 rcases Nat.eq_zero_or_pos w.heap.size with h0 | h1
 ·simp [Zce,World.cell?,h0] at h
 ·exact h1
theorem Zlr (w:World):Calls Tryz.prog 25 #[.nilIface] w fun e w'=>e=.returned (.int .i64 0)/\Below w.heap.size w w':=by
 have B0:Below w.heap.size w (w.alloc (.cells #[.int .i64 0] 91)):=(Below.refl _ _).alloc (Nat.le_refl _) _
 go_enter Tryz.func25,Tryz.ntmps25
 go_wp2_with fail
 refine (as_nil _ _).mono ?_
 rintro e w1 ⟨rfl,rfl⟩
 go_wp2
 go_ret
 exact⟨rfl,B0⟩
theorem Zlq (code:Int)(w:World)(hg:Zce w):Calls Tryz.prog 25 #[.iface 91 (.agg #[.int .i64 code])] w fun e w'=>e=.returned (.int .i64 code)/\Below w.heap.size w w':=by
 have B0:Below w.heap.size w (w.alloc (.cells #[.int .i64 0] 91)):=(Below.refl _ _).alloc (Nat.le_refl _) _;have g0:=heap_alloc_new w (.cells #[.int .i64 0] 91);have H:=hide (as_hit w.heap.size code _ (hg.below B0 hg.pos) g0);clear hg;have HB:=hide B0;have HG:=hide g0;clear B0 g0
 go_enter Tryz.func25,Tryz.ntmps25
 go_wp2_with fail
 refine H.out.mono ?_
 clear H;rintro e w1 ⟨rfl,hw1⟩;have hb0:=HB.out.size;have hz:=Zab HG.out;have B1:Below w.heap.size w w1:=by
  rw [hw1];exact below_setRow (((((HB.out.alloc hb0 _).alloc (by simp;omega) _).alloc (by simp;omega) _).alloc (by simp;omega) _)) (Nat.le_refl _) _
 have g1:w1.heap[w.heap.size]? = some (.cells #[.int .i64 code] 91):=by
  rw [hw1];refine setRow_heap _ _ #[.int .i64 0] _ _ _ ?_
  rw [Below.heap_alloc _ _ _ (by simp;omega),Below.heap_alloc _ _ _ (by simp;omega),Below.heap_alloc _ _ _ (by simp;omega),Below.heap_alloc _ _ _ hz]
  exact HG.out
 have s0:=Zaa g1 0;simp at s0
 clear hw1 g1 HB HG
 go_wp2
 go_ret
 exact⟨rfl,B1⟩
def Zed (x:SelfD)(ps:List RP)(es:List Th)(N:Nat):Int:=if Zcw x ps=true then (if ZbK es (Zav x.net.ls x.id (3*N))=true then (if x.heard=Zbc es then 0 else 3) else 2) else 1
def Zbh (x:SelfD)(ps:List RP)(es:List Th)(N:Nat):Bool:=Zcw x ps&&(ZbK es (Zav x.net.ls x.id (3*N))&&decide (x.heard=Zbc es))
theorem ZjV (x:SelfD)(ps:List RP)(es:List Th)(N:Nat):(Zed x ps es N==0)=Zbh x ps es N:=by
 unfold Zed Zbh;cases Zcw x ps <;> cases ZbK es (Zav x.net.ls x.id (3*N)) <;> by_cases h:x.heard=Zbc es <;> simp [h]
def errV (c:Int):Value:=if c=0 then .nilIface else .iface 91 (.agg #[.int .i64 c])
theorem ZnX {x:SelfD}{ps:List RP}(h:Zcw x ps=true):1<=x.net.n/\x.net.n<=6/\x.net.ls.length<=12:=by
 unfold Zcw Zbq ZcX inB at h;simp only [Bool.and_eq_true,decide_eq_true_eq] at h
 omega
theorem ret_v {a b:Value}(h:b=a):Ending.returned a=.returned b:=by rw [h]
theorem ZlC (v1 v2 v3 v4 v5:Value)(x:SelfD)(ps:List RP)(es:List Th)(w:World)(ht:Zbm x ps es<=1048576)(hv:NodeIn w v1 v2 v3 v4 v5 x ps es w.heap.size)(hs:Zcw x ps=false):
  Calls Tryz.prog 26 #[Zd8 x v1 v2 v3 v4 v5] w fun e w'=>e=.returned (.iface 91 (.agg #[.int .i64 1]))/\Below w.heap.size w w':=by
 obtain⟨⟨a1,c1,rfl⟩,⟨a2,c2,rfl⟩,⟨a3,c3,rfl⟩,⟨a4,c4,rfl⟩,⟨a5,c5,rfl⟩⟩:=hv.shapes;have hS:totS x ps<=1048576:=by unfold Zbm at ht;omega
 have hE:es.length<=1048576:=by unfold Zbm at ht;omega
 have hH:x.heard.length<=1048576:=by unfold Zbm totS at ht;omega
 have hL:x.net.ls.length<=1048576:=by unfold Zbm totS at ht;omega
 have B0:Below w.heap.size w (w.alloc (.cells #[.int .i64 x.id,.int .i64 x.boot,.int .i64 x.net.n,.slice a1 x.net.ls.length c1,.slice a2 x.net.ts.length c2,.slice a3 x.heard.length c3,.slice a4 ps.length c4,.slice a5 es.length c5] 44)):=(Below.refl _ _).alloc (Nat.le_refl _) _;have g0:=heap_alloc_new w (.cells #[.int .i64 x.id,.int .i64 x.boot,.int .i64 x.net.n,.slice a1 x.net.ls.length c1,.slice a2 x.net.ts.length c2,.slice a3 x.heard.length c3,.slice a4 ps.length c4,.slice a5 es.length c5] 44);have HSO:=hide (fun W (hb:Below w.heap.size w W)=>Zek _ _ _ _ x ps W hS (hv.then hb).self)
 have HV:=hide (fun W (hb:Below w.heap.size w W)=>hv.then hb)
 have HE:=hide hE;have HH:=hide hH;have HL:=hide hL;have G0:=hide g0;have HB0:=hide B0;clear hv ht hS hE hH hL g0 B0;rw [hs] at HSO;clear hs
 go_enter Tryz.func26,Tryz.ntmps26
 go_wp2_with fail
 obtain⟨w0,hw0⟩:∃ W,W=w.alloc (.cells #[.int .i64 x.id,.int .i64 x.boot,.int .i64 x.net.n,.slice a1 x.net.ls.length c1,.slice a2 x.net.ts.length c2,.slice a3 x.heard.length c3,.slice a4 ps.length c4,.slice a5 es.length c5] 44):=⟨_,rfl⟩;rw [<-hw0] at HB0 G0 |-;clear hw0;refine (HSO.out _ HB0.out).mono ?_
 rintro e w1 ⟨rfl,b1⟩;have B1:Below w.heap.size w w1:=HB0.out.trans (b1.mono HB0.out.size);have g1:=(b1.block _ (Zab G0.out)).trans G0.out;clear b1 HB0 G0 HSO
 go_wp2
 go_ret
 exact⟨rfl,B1⟩
theorem ZlA (v1 v2 v3 v4 v5:Value)(x:SelfD)(ps:List RP)(es:List Th)(N:Nat)(w:World)(ht:Zbm x ps es<=1048576)(hv:NodeIn w v1 v2 v3 v4 v5 x ps es w.heap.size)(hs:Zcw x ps=true)(hN:x.net.n=(N:Int))(hN6:N<=6)(hm:ZbK es (Zav x.net.ls x.id (3*N))=false):
  Calls Tryz.prog 26 #[Zd8 x v1 v2 v3 v4 v5] w fun e w'=>e=.returned (.iface 91 (.agg #[.int .i64 2]))/\Below w.heap.size w w':=by
 obtain⟨⟨a1,c1,rfl⟩,⟨a2,c2,rfl⟩,⟨a3,c3,rfl⟩,⟨a4,c4,rfl⟩,⟨a5,c5,rfl⟩⟩:=hv.shapes;have hS:totS x ps<=1048576:=by unfold Zbm at ht;omega
 have hE:es.length<=1048576:=by unfold Zbm at ht;omega
 have hH:x.heard.length<=1048576:=by unfold Zbm totS at ht;omega
 have hL:x.net.ls.length<=1048576:=by unfold Zbm totS at ht;omega
 have B0:Below w.heap.size w (w.alloc (.cells #[.int .i64 x.id,.int .i64 x.boot,.int .i64 x.net.n,.slice a1 x.net.ls.length c1,.slice a2 x.net.ts.length c2,.slice a3 x.heard.length c3,.slice a4 ps.length c4,.slice a5 es.length c5] 44)):=(Below.refl _ _).alloc (Nat.le_refl _) _;have g0:=heap_alloc_new w (.cells #[.int .i64 x.id,.int .i64 x.boot,.int .i64 x.net.n,.slice a1 x.net.ls.length c1,.slice a2 x.net.ts.length c2,.slice a3 x.heard.length c3,.slice a4 ps.length c4,.slice a5 es.length c5] 44);have HSO:=hide (fun W (hb:Below w.heap.size w W)=>Zek _ _ _ _ x ps W hS (hv.then hb).self)
 have HV:=hide (fun W (hb:Below w.heap.size w W)=>hv.then hb)
 have HE:=hide hE;have HH:=hide hH;have HL:=hide hL;have G0:=hide g0;have HB0:=hide B0;clear hv ht hS hE hH hL g0 B0;have HHE:=hide (fun W (hb:Below w.heap.size w W)=>Zhc _ _ _ _ _ x ps es W HE.out (HV.out W hb))
 have HEA:=hide (fun W (hb:Below w.heap.size w W)=>ZiW _ _ _ _ x ps N W hN hN6 HL.out (HV.out W hb).self)
 have HEF:=hide (fun (u:Value) W (hb:Below w.heap.size w W) (hu:ZaP W u (Zav x.net.ls x.id (3*N)) W.heap.size)=>Zg1 _ u es _ W (HV.out W hb).ears hu HE.out)
 have HSE:=hide (fun (u:Value) W (hb:Below w.heap.size w W) (hu:Zeb W u (Zbc es) W.heap.size)=>Zgv _ u x.heard _ W (ZaG.ints (HV.out W hb).self.heard) hu HH.out)
 obtain⟨M,hM⟩:∃ M,M=ZbK es (Zav x.net.ls x.id (3*N)):=⟨_,rfl⟩;rw [<-hM] at HEF;rw [hm] at hM;subst hM;rw [hs] at HSO;clear hs hm HHE HSE hN
 go_enter Tryz.func26,Tryz.ntmps26
 go_wp2_with fail
 obtain⟨w0,hw0⟩:∃ W,W=w.alloc (.cells #[.int .i64 x.id,.int .i64 x.boot,.int .i64 x.net.n,.slice a1 x.net.ls.length c1,.slice a2 x.net.ts.length c2,.slice a3 x.heard.length c3,.slice a4 ps.length c4,.slice a5 es.length c5] 44):=⟨_,rfl⟩;rw [<-hw0] at HB0 G0 |-;clear hw0;refine (HSO.out _ HB0.out).mono ?_
 rintro e w1 ⟨rfl,b1⟩;have B1:Below w.heap.size w w1:=HB0.out.trans (b1.mono HB0.out.size);have g1:=(b1.block _ (Zab G0.out)).trans G0.out;clear b1 HB0 G0 HSO;have g1d:w1.drew.heap[w.heap.size]? = some (.cells #[.int .i64 x.id,.int .i64 x.boot,.int .i64 x.net.n,.slice a1 x.net.ls.length c1,.slice a2 x.net.ts.length c2,.slice a3 x.heard.length c3,.slice a4 ps.length c4,.slice a5 es.length c5] 44):=g1;have BD:=hide (B1.drew);have G1:=hide g1;have HAD:=hide (HEA.out w1.drew B1.drew);have s0:=Zaa g1 0;have s1:=Zaa g1 1;have s2:=Zaa g1 2;have s3:=Zaa g1 3;have s4:=Zaa g1 4;have s5:=Zaa g1 5;have s6:=Zaa g1 6;have s7:=Zaa g1 7;simp at s0 s1 s2 s3 s4 s5 s6 s7
 have hz1:=Zab g1;clear g1 g1d HEA HV
 go_wp2
 go_region_held3 (fun W=>W.cell? ⟨w.heap.size,0,none⟩=some (.int .i64 x.id)/\W.cell? ⟨w.heap.size,1,none⟩=some (.int .i64 x.boot)/\W.cell? ⟨w.heap.size,2,none⟩=some (.int .i64 x.net.n)/\W.cell? ⟨w.heap.size,3,none⟩=some (.slice a1 x.net.ls.length c1)/\W.cell? ⟨w.heap.size,4,none⟩=some (.slice a2 x.net.ts.length c2)/\W.cell? ⟨w.heap.size,5,none⟩=some (.slice a3 x.heard.length c3)/\W.cell? ⟨w.heap.size,6,none⟩=some (.slice a4 ps.length c4)/\W.cell? ⟨w.heap.size,7,none⟩=some (.slice a5 es.length c5)) (first | go_keep | (refine ⟨?_,?_,?_,?_,?_,?_,?_,?_⟩ <;> (rw [b3.cell (Nat.lt_of_lt_of_le (by assumption) b2.size),b2.cell (by assumption)];assumption)) | (refine ⟨?_,?_,?_,?_,?_,?_,?_,?_⟩ <;> (rw [b2.cell (by assumption)];assumption))) (first | (go_at_call 53;refine HAD.out.mono ?_;rintro e w2 ⟨u,rfl,ou,b2⟩) | (go_at_call 52;refine (HEF.out u _ (BD.out.trans (b2.mono BD.out.size)) (ZaU ou)).mono ?_;rintro e w3 ⟨rfl,b3⟩))
 have B2:Below w.heap.size w w2:=BD.out.trans (b2.mono BD.out.size);have B3:Below w.heap.size w w3:=B2.trans (b3.mono B2.size)
 go_wp2
 go_ret
 exact⟨rfl,B3⟩
theorem ZlB (v1 v2 v3 v4 v5:Value)(x:SelfD)(ps:List RP)(es:List Th)(N:Nat)(w:World)(ht:Zbm x ps es<=1048576)(hv:NodeIn w v1 v2 v3 v4 v5 x ps es w.heap.size)(hs:Zcw x ps=true)(hN:x.net.n=(N:Int))(hN6:N<=6)(hm:ZbK es (Zav x.net.ls x.id (3*N))=true):
  Calls Tryz.prog 26 #[Zd8 x v1 v2 v3 v4 v5] w fun e w'=>e=.returned (if x.heard=Zbc es then .nilIface else .iface 91 (.agg #[.int .i64 3]))/\Below w.heap.size w w':=by
 obtain⟨R,hR⟩:∃ R,R=(if x.heard=Zbc es then Value.nilIface else .iface 91 (.agg #[.int .i64 3])):=⟨_,rfl⟩
 rw [<-hR];have HRR:=hide hR;clear hR;obtain⟨⟨a1,c1,rfl⟩,⟨a2,c2,rfl⟩,⟨a3,c3,rfl⟩,⟨a4,c4,rfl⟩,⟨a5,c5,rfl⟩⟩:=hv.shapes;have hS:totS x ps<=1048576:=by unfold Zbm at ht;omega
 have hE:es.length<=1048576:=by unfold Zbm at ht;omega
 have hH:x.heard.length<=1048576:=by unfold Zbm totS at ht;omega
 have hL:x.net.ls.length<=1048576:=by unfold Zbm totS at ht;omega
 have B0:Below w.heap.size w (w.alloc (.cells #[.int .i64 x.id,.int .i64 x.boot,.int .i64 x.net.n,.slice a1 x.net.ls.length c1,.slice a2 x.net.ts.length c2,.slice a3 x.heard.length c3,.slice a4 ps.length c4,.slice a5 es.length c5] 44)):=(Below.refl _ _).alloc (Nat.le_refl _) _;have g0:=heap_alloc_new w (.cells #[.int .i64 x.id,.int .i64 x.boot,.int .i64 x.net.n,.slice a1 x.net.ls.length c1,.slice a2 x.net.ts.length c2,.slice a3 x.heard.length c3,.slice a4 ps.length c4,.slice a5 es.length c5] 44);have HSO:=hide (fun W (hb:Below w.heap.size w W)=>Zek _ _ _ _ x ps W hS (hv.then hb).self)
 have HV:=hide (fun W (hb:Below w.heap.size w W)=>hv.then hb)
 have HE:=hide hE;have HH:=hide hH;have HL:=hide hL;have G0:=hide g0;have HB0:=hide B0;clear hv ht hS hE hH hL g0 B0;have HHE:=hide (fun W (hb:Below w.heap.size w W)=>Zhc _ _ _ _ _ x ps es W HE.out (HV.out W hb))
 have HEA:=hide (fun W (hb:Below w.heap.size w W)=>ZiW _ _ _ _ x ps N W hN hN6 HL.out (HV.out W hb).self)
 have HEF:=hide (fun (u:Value) W (hb:Below w.heap.size w W) (hu:ZaP W u (Zav x.net.ls x.id (3*N)) W.heap.size)=>Zg1 _ u es _ W (HV.out W hb).ears hu HE.out)
 have HSE:=hide (fun (u:Value) W (hb:Below w.heap.size w W) (hu:Zeb W u (Zbc es) W.heap.size)=>Zgv _ u x.heard _ W (ZaG.ints (HV.out W hb).self.heard) hu HH.out)
 obtain⟨M,hM⟩:∃ M,M=ZbK es (Zav x.net.ls x.id (3*N)):=⟨_,rfl⟩;rw [<-hM] at HEF;rw [hm] at hM;subst hM;rw [hs] at HSO;clear hs hm hN
 go_enter Tryz.func26,Tryz.ntmps26
 go_wp2_with fail
 obtain⟨w0,hw0⟩:∃ W,W=w.alloc (.cells #[.int .i64 x.id,.int .i64 x.boot,.int .i64 x.net.n,.slice a1 x.net.ls.length c1,.slice a2 x.net.ts.length c2,.slice a3 x.heard.length c3,.slice a4 ps.length c4,.slice a5 es.length c5] 44):=⟨_,rfl⟩;rw [<-hw0] at HB0 G0 |-;clear hw0;refine (HSO.out _ HB0.out).mono ?_
 rintro e w1 ⟨rfl,b1⟩;have B1:Below w.heap.size w w1:=HB0.out.trans (b1.mono HB0.out.size);have g1:=(b1.block _ (Zab G0.out)).trans G0.out;clear b1 HB0 G0 HSO;have g1d:w1.drew.heap[w.heap.size]? = some (.cells #[.int .i64 x.id,.int .i64 x.boot,.int .i64 x.net.n,.slice a1 x.net.ls.length c1,.slice a2 x.net.ts.length c2,.slice a3 x.heard.length c3,.slice a4 ps.length c4,.slice a5 es.length c5] 44):=g1;have BD:=hide (B1.drew);have G1:=hide g1;have HAD:=hide (HEA.out w1.drew B1.drew);have s0:=Zaa g1 0;have s1:=Zaa g1 1;have s2:=Zaa g1 2;have s3:=Zaa g1 3;have s4:=Zaa g1 4;have s5:=Zaa g1 5;have s6:=Zaa g1 6;have s7:=Zaa g1 7;simp at s0 s1 s2 s3 s4 s5 s6 s7
 have hz1:=Zab g1;clear g1 g1d HEA HV
 go_wp2
 go_region_held3 (fun W=>W.cell? ⟨w.heap.size,0,none⟩=some (.int .i64 x.id)/\W.cell? ⟨w.heap.size,1,none⟩=some (.int .i64 x.boot)/\W.cell? ⟨w.heap.size,2,none⟩=some (.int .i64 x.net.n)/\W.cell? ⟨w.heap.size,3,none⟩=some (.slice a1 x.net.ls.length c1)/\W.cell? ⟨w.heap.size,4,none⟩=some (.slice a2 x.net.ts.length c2)/\W.cell? ⟨w.heap.size,5,none⟩=some (.slice a3 x.heard.length c3)/\W.cell? ⟨w.heap.size,6,none⟩=some (.slice a4 ps.length c4)/\W.cell? ⟨w.heap.size,7,none⟩=some (.slice a5 es.length c5)) (first | go_keep | (refine ⟨?_,?_,?_,?_,?_,?_,?_,?_⟩ <;> (rw [b3.cell (Nat.lt_of_lt_of_le (by assumption) b2.size),b2.cell (by assumption)];assumption)) | (refine ⟨?_,?_,?_,?_,?_,?_,?_,?_⟩ <;> (rw [b2.cell (by assumption)];assumption))) (first | (go_at_call 53;refine HAD.out.mono ?_;rintro e w2 ⟨u,rfl,ou,b2⟩) | (go_at_call 52;refine (HEF.out u _ (BD.out.trans (b2.mono BD.out.size)) (ZaU ou)).mono ?_;rintro e w3 ⟨rfl,b3⟩))
 have B2:Below w.heap.size w w2:=BD.out.trans (b2.mono BD.out.size);have B3:Below w.heap.size w w3:=B2.trans (b3.mono B2.size);have g2:=(b2.block _ (by exact hz1)).trans (show w1.drew.heap[w.heap.size]? = _ from G1.out)
 have g3:=(b3.block _ (Zab g2)).trans g2;have BD3:=hide (B3.drew);have HHD:=hide (HHE.out w3.drew B3.drew);have hz3:=Zab g3;clear s0 s1 s2 s3 s4 s5 s6 s7 HAD HEF BD HHE G1 g2 hz1 B1 B2 ou b2 b3;have s0:=Zaa g3 0;have s1:=Zaa g3 1;have s2:=Zaa g3 2;have s3:=Zaa g3 3;have s4:=Zaa g3 4;have s5:=Zaa g3 5;have s6:=Zaa g3 6;have s7:=Zaa g3 7;simp at s0 s1 s2 s3 s4 s5 s6 s7
 clear g3;obtain⟨Hd,hHd⟩:∃ Hd,Hd=decide (x.heard=Zbc es):=⟨_,rfl⟩;rw [<-hHd] at HSE;have HHD2:=hide hHd;clear hHd
 go_wp2
 go_region_held3 (fun W=>W.cell? ⟨w.heap.size,0,none⟩=some (.int .i64 x.id)/\W.cell? ⟨w.heap.size,1,none⟩=some (.int .i64 x.boot)/\W.cell? ⟨w.heap.size,2,none⟩=some (.int .i64 x.net.n)/\W.cell? ⟨w.heap.size,3,none⟩=some (.slice a1 x.net.ls.length c1)/\W.cell? ⟨w.heap.size,4,none⟩=some (.slice a2 x.net.ts.length c2)/\W.cell? ⟨w.heap.size,5,none⟩=some (.slice a3 x.heard.length c3)/\W.cell? ⟨w.heap.size,6,none⟩=some (.slice a4 ps.length c4)/\W.cell? ⟨w.heap.size,7,none⟩=some (.slice a5 es.length c5)) (first | go_keep | (refine ⟨?_,?_,?_,?_,?_,?_,?_,?_⟩ <;> (rw [b5.cell (Nat.lt_of_lt_of_le (by assumption) b4.size),b4.cell (by assumption)];assumption)) | (refine ⟨?_,?_,?_,?_,?_,?_,?_,?_⟩ <;> (rw [b4.cell (by assumption)];assumption))) (first | (go_at_call 56;refine HHD.out.mono ?_;rintro e w4 ⟨uh,rfl,oh,b4⟩) | (go_at_call 55;refine (HSE.out uh _ (BD3.out.trans (b4.mono BD3.out.size)) (ZaG.ints (ZaU oh))).mono ?_;rintro e w5 ⟨rfl,b5⟩))
 have B4:Below w.heap.size w w4:=BD3.out.trans (b4.mono BD3.out.size);have B5:Below w.heap.size w w5:=B4.trans (b5.mono B4.size);cases Hd with
 | true=>
  have HE2:=hide (show R=.nilIface by rw [HRR.out,if_pos (of_decide_eq_true HHD2.out.symm)])
  go_wp2
  go_ret
  exact⟨ret_v HE2.out,B5⟩
 | false=>
  have HE2:=hide (show R=.iface 91 (.agg #[.int .i64 3]) by rw [HRR.out,if_neg (of_decide_eq_false HHD2.out.symm)])
  go_wp2
  go_ret
  exact⟨ret_v HE2.out,B5⟩
theorem Zm4 (v1 v2 v3 v4 v5:Value)(x:SelfD)(ps:List RP)(es:List Th)(w:World)(ht:Zbm x ps es<=1048576)(hv:NodeIn w v1 v2 v3 v4 v5 x ps es w.heap.size):
  Calls Tryz.prog 26 #[Zd8 x v1 v2 v3 v4 v5] w fun e w'=>e=.returned (errV (Zed x ps es x.net.n.toNat))/\Below w.heap.size w w':=by
 cases hs:Zcw x ps with
 | false=>
  have e:Zed x ps es x.net.n.toNat=1:=by unfold Zed;rw [hs];rfl
  rw [e];exact ZlC _ _ _ _ _ x ps es w ht hv hs
 | true=>
  have hn:=ZnX hs;have hN:x.net.n=(x.net.n.toNat:Int):=by omega
  cases hm:ZbK es (Zav x.net.ls x.id (3*x.net.n.toNat)) with
  | false=>
   have e:Zed x ps es x.net.n.toNat=2:=by unfold Zed;rw [hs,hm];rfl
   rw [e];exact ZlA _ _ _ _ _ x ps es _ w ht hv hs hN (by omega) hm
  | true=>
   have e:errV (Zed x ps es x.net.n.toNat)=(if x.heard=Zbc es then .nilIface else .iface 91 (.agg #[.int .i64 3])):=by
    unfold Zed errV;rw [hs,hm];by_cases h:x.heard=Zbc es <;> simp [h]
   rw [e];exact ZlB _ _ _ _ _ x ps es _ w ht hv hs hN (by omega) hm
theorem Zj7 (v1 v2 v3 v4 v5:Value)(x:SelfD)(ps:List RP)(es:List Th)(w:World)(hg:Zce w)(ht:Zbm x ps es<=1048576)(hv:NodeIn w v1 v2 v3 v4 v5 x ps es w.heap.size):
  Calls Tryz.prog 8 #[Zd8 x v1 v2 v3 v4 v5] w fun e w'=>e=.returned (.bool (Zbh x ps es x.net.n.toNat))/\Below w.heap.size w w':=by
 have B0:∀ o,Below w.heap.size w (w.alloc o):=fun o=>(Below.refl _ _).alloc (Nat.le_refl _) _
 have HF:=hide (fun W (hb:Below w.heap.size w W)=>Zm4 _ _ _ _ _ x ps es W ht (hv.then hb))
 have HG:=hide (fun W (hb:Below w.heap.size w W)=>hg.below hb hg.pos)
 obtain⟨⟨a1,c1,rfl⟩,⟨a2,c2,rfl⟩,⟨a3,c3,rfl⟩,⟨a4,c4,rfl⟩,⟨a5,c5,rfl⟩⟩:=hv.shapes;rw [<-ZjV];obtain⟨F,hF⟩:∃ F,F=Zed x ps es x.net.n.toNat:=⟨_,rfl⟩;rw [<-hF] at HF |-;clear hF hv ht hg;by_cases h0:F=0
 ·subst h0
  have e:errV 0=.nilIface:=rfl;rw [e] at HF;clear e
  go_enter Tryz.func8,Tryz.ntmps8
  go_wp2_with fail
  refine (HF.out _ (B0 _)).mono ?_
  rintro e w1 ⟨rfl,b1⟩;have B1:Below w.heap.size w w1:=(B0 _).trans (b1.mono (B0 _).size);clear b1 HF HG B0
  go_wp2_with fail
  refine (Zlr _).mono ?_
  rintro e w2 ⟨rfl,b2⟩;have B2:Below w.heap.size w w2:=B1.trans (b2.mono B1.size)
  go_wp2
  go_ret
  exact⟨rfl,B2⟩
 ·have e:errV F=.iface 91 (.agg #[.int .i64 F]):=by unfold errV;rw [if_neg h0]
  rw [e] at HF;clear e;have hd:(F==0)=false:=by simpa using h0
  go_enter Tryz.func8,Tryz.ntmps8
  go_wp2_with fail
  refine (HF.out _ (B0 _)).mono ?_
  rintro e w1 ⟨rfl,b1⟩;have B1:Below w.heap.size w w1:=(B0 _).trans (b1.mono (B0 _).size);clear b1 HF B0
  go_wp2_with fail
  refine (Zlq F _ (HG.out _ B1)).mono ?_
  rintro e w2 ⟨rfl,b2⟩;have B2:Below w.heap.size w w2:=B1.trans (b2.mono B1.size)
  go_wp2
  go_ret
  exact⟨Zag hd,B2⟩
end Go.Proofs.YtnndlmodjkplnaaGreatDoor
