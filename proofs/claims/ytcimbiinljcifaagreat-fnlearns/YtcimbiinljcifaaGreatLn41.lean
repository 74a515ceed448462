/-
  SelfOkS
-/
import Derived.Test.YtcimbiinljcifaaGreatLn4
import Derived.Test.YtcimbiinljcifaaGreatLn40
import Derived.Test.YtcimbiinljcifaaGreatLn18
import Derived.Test.YtcimbiinljcifaaGreatLn1
import Derived.Test.YtcimbiinljcifaaGreatLn34
import Derived.Test.YtcimbiinljcifaaGreatLn8
import Derived.Test.YtcimbiinljcifaaGreatLn35
namespace Go.Proofs.YtcimbiinljcifaaGreat
open Go.RowKit
set_option linter.unusedSimpArgs false
set_option linter.unusedVariables false
set_option maxRecDepth 100000
set_option maxHeartbeats 8000000
theorem Zip (v1 v2 v3 v4:Value)(x:SelfD)(ps:List RP)(w:World)(ht:totS x ps<=1048576)(hv:SelfIn w v1 v2 v3 v4 x ps w.heap.size):
  Calls Tryz.prog 31 #[ZdL x v1 v2 v3 v4] w fun e w'=>e=.returned (.bool (ZcE x ps))/\Below w.heap.size w w':=by
 obtain⟨⟨a1,c1,rfl⟩,⟨a2,c2,rfl⟩,⟨a3,c3,rfl⟩,⟨a4,c4,rfl⟩⟩:=hv.shapes;have hlL:x.net.ls.length<=1048576:=by unfold totS at ht;omega
 have hlT:x.net.ts.length<=1048576:=by unfold totS at ht;omega
 have hlH:x.heard.length<=1048576:=by unfold totS at ht;omega
 have hlR:tot ps<=1048576:=by unfold totS at ht;omega
 have HX:=hide hv;clear hv ht;have BA:Below w.heap.size w (w.alloc (.cells #[.int .i64 x.id,.int .i64 x.boot,.int .i64 x.net.n,.slice a1 x.net.ls.length c1,.slice a2 x.net.ts.length c2,.slice a3 x.heard.length c3,.slice a4 ps.length c4] 31)):=(Below.refl _ _).alloc (Nat.le_refl _) _;have g0:=heap_alloc_new w (.cells #[.int .i64 x.id,.int .i64 x.boot,.int .i64 x.net.n,.slice a1 x.net.ls.length c1,.slice a2 x.net.ts.length c2,.slice a3 x.heard.length c3,.slice a4 ps.length c4] 31);obtain⟨r1,h1⟩:∃ r,r=ZaV x.net:=⟨_,rfl⟩;obtain⟨r2,h2⟩:∃ r,r=inB x.id 1 x.net.n:=⟨_,rfl⟩;obtain⟨r3,h3⟩:∃ r,r=inB x.boot 0 90:=⟨_,rfl⟩;obtain⟨r4,h4⟩:∃ r,r=Zck x.net.ls x.id x.heard:=⟨_,rfl⟩;obtain⟨r5,h5⟩:∃ r,r=Zaw (fsts ps):=⟨_,rfl⟩;have HS:=hide (show ZcE x ps=(r1&&(r2&&(r3&&(r4&&r5)))) by unfold ZcE;rw [h1,h2,h3,h4,h5])
 rw [HS.out];have HN:=hide (Zgf _ x.net (w.alloc (.cells #[.int .i64 x.id,.int .i64 x.boot,.int .i64 x.net.n,.slice a1 x.net.ls.length c1,.slice a2 x.net.ts.length c2,.slice a3 x.heard.length c3,.slice a4 ps.length c4] 31)) hlL hlT (HX.out.then BA).net);have HI1:=hide (Zbo x.id 1 x.net.n);have HI2:=hide (Zbo x.boot 0 90);have HHD:=hide (fun W (hb:Below w.heap.size w W) (hn:r1=true)=>ZjC _ _ _ _ x ps W hlL hlH (HX.out.then hb))
 have HST:=hide (fun W (hb:Below w.heap.size w W)=>Zb9 _ ps W hlR (HX.out.then hb).store)
 have HHE:=hide (show r1=true->ZcZ x.net.ls x.id x.heard=r4 from fun hn=>by rw [h4];exact Zje (by rw [<-h1];exact hn))
 rw [<-h1] at HN;rw [<-h2] at HI1;rw [<-h3] at HI2
 skip
 rw [<-h5] at HST;have G0:=hide g0;clear h1 h2 h3 h4 h5 HS g0
 go_enter Tryz.func31,Tryz.ntmps31
 go_wp2_with fail
 obtain⟨w0,hw0⟩:∃ W,W=w.alloc (.cells #[.int .i64 x.id,.int .i64 x.boot,.int .i64 x.net.n,.slice a1 x.net.ls.length c1,.slice a2 x.net.ts.length c2,.slice a3 x.heard.length c3,.slice a4 ps.length c4] 31):=⟨_,rfl⟩;rw [<-hw0] at BA G0 HN |-;clear hw0;refine HN.out.mono ?_
 rintro e w1 ⟨rfl,b1⟩;have g1:=(b1.block _ (Zab G0.out)).trans G0.out;have B1:Below w.heap.size w w1:=BA.trans (b1.mono BA.size);cases r1
 ·go_wp2
  go_ret
  exact⟨rfl,B1⟩
 have s0:=Zaa g1 0;have s1:=Zaa g1 1;have s2:=Zaa g1 2;have s3:=Zaa g1 3;have s4:=Zaa g1 4;have s5:=Zaa g1 5;have s6:=Zaa g1 6;simp at s0 s1 s2 s3 s4 s5 s6
 have G1:=hide g1;clear g1 b1 HN
 go_wp2_with fail
 refine (HI1.out _).mono ?_
 rintro e w2 ⟨rfl,rfl⟩;cases r2
 ·go_wp2
  go_ret
  exact⟨rfl,B1⟩
 go_wp2_with fail
 refine (HI2.out _).mono ?_
 rintro e w2 ⟨rfl,rfl⟩;cases r3
 ·go_wp2
  go_ret
  exact⟨rfl,B1⟩
 go_wp2_with fail
 refine (HHD.out _ B1 (by simp)).mono ?_
 rintro e w3 ⟨rfl,b3⟩;rw [HHE.out (by simp)]
 have g3:=(b3.block _ (Zab G1.out)).trans G1.out;have B3:Below w.heap.size w w3:=B1.trans (b3.mono B1.size);cases r4
 ·clear s0 s1 s2 s3 s4 s5 s6
  go_wp2
  go_ret
  exact⟨rfl,B3⟩
 clear s0 s1 s2 s3 s4 s5 s6;have s6:=Zaa g3 6;simp at s6
 clear g3 b3
 go_wp2_with fail
 refine (HST.out _ B3).mono ?_
 rintro e w4 ⟨rfl,b4⟩;have B4:Below w.heap.size w w4:=B3.trans (b4.mono B3.size);clear b4
 go_wp2
 go_ret
 exact⟨by simp,B4⟩
end Go.Proofs.YtcimbiinljcifaaGreat
