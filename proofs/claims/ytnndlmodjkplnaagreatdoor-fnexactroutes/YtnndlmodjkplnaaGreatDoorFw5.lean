/-
  NodeK ListKit InB IsIn IOrd NetOkS ILink
-/
import Derived.Test.YtnndlmodjkplnaaGreatDoorFw4
import Derived.Test.YtnndlmodjkplnaaGreatDoorFw1
import Derived.Deep.RegionHeld3
import Derived.Test.YtnndlmodjkplnaaGreatDoorFw2
namespace Go.Proofs.YtnndlmodjkplnaaGreatDoor
open Go.RowKit
set_option linter.unusedSimpArgs false
set_option linter.unusedVariables false
set_option maxRecDepth 100000
set_option maxHeartbeats 8000000
abbrev Zd8 (x:SelfD) (v1 v2 v3 v4 v5:Value):Value:=.agg #[.int .i64 x.id,.int .i64 x.boot,.int .i64 x.net.n,v1,v2,v3,v4,v5]
structure NodeIn (W:World) (v1 v2 v3 v4 v5:Value) (x:SelfD) (ps:List RP) (es:List Th) (B:Nat):Prop where
 self:SelfIn W v1 v2 v3 v4 x ps B
 ears:ZaP W v5 es B
def Zpo (W:World)(v:Value)(x:SelfD)(ps:List RP)(es:List Th)(B:Nat):Prop:=∃ v1 v2 v3 v4 v5,v=Zd8 x v1 v2 v3 v4 v5/\SelfIn W v1 v2 v3 v4 x ps B/\ZaP W v5 es B
def ZjD (x:SelfD)(ps:List RP)(es:List Th):Prop:=ZjE x ps/\es.length<=maxLen
def Zbm (x:SelfD)(ps:List RP)(es:List Th):Nat:=totS x ps+es.length
theorem NodeIn.then {W W':World}{v1 v2 v3 v4 v5:Value}{x:SelfD}{ps:List RP}{es:List Th}(h:NodeIn W v1 v2 v3 v4 v5 x ps es W.heap.size)(hb:Below W.heap.size W W'):NodeIn W' v1 v2 v3 v4 v5 x ps es W'.heap.size:=⟨h.self.then hb,h.ears.then hb⟩
theorem NodeIn.later {W W':World}{v1 v2 v3 v4 v5:Value}{x:SelfD}{ps:List RP}{es:List Th}{B C:Nat}(h:NodeIn W v1 v2 v3 v4 v5 x ps es B)(hb:Below C W W')(hBC:B<=C):NodeIn W' v1 v2 v3 v4 v5 x ps es B:=⟨h.self.later hb hBC,ZaL.later h.ears hb hBC⟩
theorem NodeIn.more {W:World}{v1 v2 v3 v4 v5:Value}{x:SelfD}{ps:List RP}{es:List Th}{B C:Nat}(h:NodeIn W v1 v2 v3 v4 v5 x ps es B)(hBC:B<=C):NodeIn W v1 v2 v3 v4 v5 x ps es C:=⟨h.self.more hBC,ZaL.more h.ears hBC⟩
theorem NodeIn.shapes {W:World}{v1 v2 v3 v4 v5:Value}{x:SelfD}{ps:List RP}{es:List Th}{B:Nat}(h:NodeIn W v1 v2 v3 v4 v5 x ps es B):(∃ a c,v1=.slice a x.net.ls.length c)/\(∃ a c,v2=.slice a x.net.ts.length c)/\(∃ a c,v3=.slice a x.heard.length c)/\(∃ a c,v4=.slice a ps.length c)/\∃ a c,v5=.slice a es.length c:=
 ⟨h.self.shapes.1,h.self.shapes.2.1,h.self.shapes.2.2.1,h.self.shapes.2.2.2,h.ears.shape⟩
structure NodeOwn (W:World) (lo hi:Nat) (v1 v2 v3 v4 v5:Value) (x:SelfD) (ps:List RP) (es:List Th) (m1 m2 m3:Nat):Prop where
 self:SelfOwn W lo m3 v1 v2 v3 v4 x ps m1 m2
 o3:m3<=hi
 ears:W.ownsRow m3 58 4 v5 es.length (flat thE es)
 etop:∀ k,v5.ownBlock=some k->k<hi
theorem NodeOwn.in {W:World}{lo hi m1 m2 m3:Nat}{v1 v2 v3 v4 v5:Value}{x:SelfD}{ps:List RP}{es:List Th}(h:NodeOwn W lo hi v1 v2 v3 v4 v5 x ps es m1 m2 m3):NodeIn W v1 v2 v3 v4 v5 x ps es hi:=
 ⟨h.self.in.more h.o3,Zdi h.ears h.etop⟩
theorem NodeOwn.keep {W W':World}{lo hi m1 m2 m3:Nat}{v1 v2 v3 v4 v5:Value}{x:SelfD}{ps:List RP}{es:List Th}(h:NodeOwn W lo hi v1 v2 v3 v4 v5 x ps es m1 m2 m3)(hk:∀ k,lo<=k->k<hi->k<W.heap.size->W'.heap[k]? = W.heap[k]?):NodeOwn W' lo hi v1 v2 v3 v4 v5 x ps es m1 m2 m3 where
 self:=h.self.keep (fun k a b c=>hk k a (by have:=h.o3;omega) c)
 o3:=h.o3
 ears:=Zal h.ears (fun k e=>by have h1:=h.ears.lt k e;have:=h.self.o1;have:=h.self.o2;have:=h.self.o3;exact hk k (by omega) (h.etop k e) h1.2)
 etop:=h.etop
theorem NodeOwn.below {W W':World}{lo hi m1 m2 m3 B:Nat}{v1 v2 v3 v4 v5:Value}{x:SelfD}{ps:List RP}{es:List Th}(h:NodeOwn W lo hi v1 v2 v3 v4 v5 x ps es m1 m2 m3)(hb:Below B W W')(hB:hi<=B):NodeOwn W' lo hi v1 v2 v3 v4 v5 x ps es m1 m2 m3:=h.keep (fun k _ h2 _=>hb.block k (by omega))
theorem NodeOwn.low {W:World}{lo lo' hi m1 m2 m3:Nat}{v1 v2 v3 v4 v5:Value}{x:SelfD}{ps:List RP}{es:List Th}(h:NodeOwn W lo hi v1 v2 v3 v4 v5 x ps es m1 m2 m3)(hl:lo'<=lo):NodeOwn W lo' hi v1 v2 v3 v4 v5 x ps es m1 m2 m3:=⟨h.self.low hl,h.o3,h.ears,h.etop⟩
theorem NodeOwn.high {W:World}{lo hi hi' m1 m2 m3:Nat}{v1 v2 v3 v4 v5:Value}{x:SelfD}{ps:List RP}{es:List Th}(h:NodeOwn W lo hi v1 v2 v3 v4 v5 x ps es m1 m2 m3)(hl:hi<=hi'):NodeOwn W lo hi' v1 v2 v3 v4 v5 x ps es m1 m2 m3:=⟨h.self,Nat.le_trans h.o3 hl,h.ears,fun k e=>Nat.lt_of_lt_of_le (h.etop k e) hl⟩
theorem Zms (v1 v2 v3 v4 v5:Value)(x:SelfD)(ps:List RP)(es:List Th)(w:World)(hlen:ZjD x ps es)(hv:NodeIn w v1 v2 v3 v4 v5 x ps es w.heap.size):
  Calls Tryz.prog 5 #[Zd8 x v1 v2 v3 v4 v5,.int .i64 1048576] w fun e w'=>∃ r:Int,e=.returned (.int .i64 r)/\(r<0\/(0<=r/\r=1048576-(Zbm x ps es:Int)))/\Below w.heap.size w w':=by
 obtain⟨⟨a1,c1,rfl⟩,⟨a2,c2,rfl⟩,⟨a3,c3,rfl⟩,⟨a4,c4,rfl⟩,⟨a5,c5,rfl⟩⟩:=hv.shapes;have hm:maxLen=9223372036854775807:=rfl;have l5:(es.length:Int)<=9223372036854775807:=by have:=hlen.2;omega
 have HT:=hide (show (Zbm x ps es:Int)=(totS x ps:Int)+(es.length:Int) by unfold Zbm;omega)
 have HS:=hide (fun W (hb:Below w.heap.size w W)=>Zmt _ _ _ _ x ps 1048576 W hlen.1 (by omega) (by omega) (hv.then hb).self)
 clear hv hlen hm
 go_enter Tryz.func5,Tryz.ntmps5
 go_wp2_with fail
 have B0:Below w.heap.size w (w.alloc (.cells #[.int .i64 x.id,.int .i64 x.boot,.int .i64 x.net.n,.slice a1 x.net.ls.length c1,.slice a2 x.net.ts.length c2,.slice a3 x.heard.length c3,.slice a4 ps.length c4,.slice a5 es.length c5] 32)):=(Below.refl _ _).alloc (Nat.le_refl _) _;have g0:=heap_alloc_new w (.cells #[.int .i64 x.id,.int .i64 x.boot,.int .i64 x.net.n,.slice a1 x.net.ls.length c1,.slice a2 x.net.ts.length c2,.slice a3 x.heard.length c3,.slice a4 ps.length c4,.slice a5 es.length c5] 32);obtain⟨w0,hw0⟩:∃ W,W=w.alloc (.cells #[.int .i64 x.id,.int .i64 x.boot,.int .i64 x.net.n,.slice a1 x.net.ls.length c1,.slice a2 x.net.ts.length c2,.slice a3 x.heard.length c3,.slice a4 ps.length c4,.slice a5 es.length c5] 32):=⟨_,rfl⟩;rw [<-hw0] at B0 g0 |-;clear hw0;refine (HS.out _ B0).mono ?_
 rintro e w1 ⟨r,rfl,hr,b1⟩;have B1:Below w.heap.size w w1:=B0.trans (b1.mono B0.size);have g1:=(b1.block _ (Zab g0)).trans g0;have s7:=Zaa g1 7;simp at s7
 clear b1 B0 g0 g1 HS
 rcases hr with hr | ⟨hr0,hr⟩
 ·go_wp2
  go_ret
  exact⟨-1,rfl,.inl (by omega),B1⟩
 have hr1:¬r<0:=by omega
 have hr2:r<=1048576:=by omega
 have HR:=hide hr;clear hr;have HSI:=hide (Zmq a5 es.length c5 r w1 l5 hr0 hr2)
 go_wp2_with fail
 refine HSI.out.mono ?_
 rintro e w2 ⟨rfl,rfl⟩;clear s7 HSI;by_cases h3:r-(es.length:Int)<0
 ·rw [if_pos h3]
  go_wp2
  go_ret
  exact⟨-1,rfl,.inl (by omega),B1⟩
 ·rw [if_neg h3]
  obtain⟨z,hz⟩:∃ z,z=r-(es.length:Int):=⟨_,rfl⟩;rw [<-hz] at h3 |-;have HZ:=hide hz;clear hz
  go_wp2
  go_ret
  exact⟨z,rfl,.inr ⟨by omega,by rw [HT.out];have:=HR.out;have:=HZ.out;omega⟩,B1⟩
theorem ZmA (v1 v2 v3 v4 v5:Value)(x:SelfD)(ps:List RP)(es:List Th)(w:World)(ht:Zbm x ps es<=1048576)(hv:NodeIn w v1 v2 v3 v4 v5 x ps es w.heap.size):
  Calls Tryz.prog 7 #[Zd8 x v1 v2 v3 v4 v5] w fun e w'=>∃ u1 u2 u3 u4 u5 qs m1 m2 m3,e=.returned (Zd8 x u1 u2 u3 u4 u5)/\fsts qs=fsts ps/\NodeOwn w' w.heap.size w'.heap.size u1 u2 u3 u4 u5 x qs es m1 m2 m3/\Below w.heap.size w w':=by
 obtain⟨⟨a1,c1,rfl⟩,⟨a2,c2,rfl⟩,⟨a3,c3,rfl⟩,⟨a4,c4,rfl⟩,⟨a5,c5,rfl⟩⟩:=hv.shapes;have hS:totS x ps<=1048576:=by unfold Zbm at ht;omega
 have hE:es.length<=1048576:=by unfold Zbm at ht;omega
 have HX:=hide hv;clear hv ht
 go_enter Tryz.func7,Tryz.ntmps7
 go_wp2_with fail
 have hw0:=Zfa w (.cells #[.int .i64 x.id,.int .i64 x.boot,.int .i64 x.net.n,.slice a1 x.net.ls.length c1,.slice a2 x.net.ts.length c2,.slice a3 x.heard.length c3,.slice a4 ps.length c4,.slice a5 es.length c5] 32) (.cells #[.int .i64 0,.int .i64 0,.int .i64 0,.slice none 0 0,.slice none 0 0,.slice none 0 0,.slice none 0 0,.slice none 0 0] 44) (.cells #[.int .i64 0,.int .i64 0,.int .i64 0,.slice none 0 0,.slice none 0 0,.slice none 0 0,.slice none 0 0,.slice none 0 0] 44);have hw1:=Zfb w (.cells #[.int .i64 x.id,.int .i64 x.boot,.int .i64 x.net.n,.slice a1 x.net.ls.length c1,.slice a2 x.net.ts.length c2,.slice a3 x.heard.length c3,.slice a4 ps.length c4,.slice a5 es.length c5] 32) (.cells #[.int .i64 0,.int .i64 0,.int .i64 0,.slice none 0 0,.slice none 0 0,.slice none 0 0,.slice none 0 0,.slice none 0 0] 44) (.cells #[.int .i64 0,.int .i64 0,.int .i64 0,.slice none 0 0,.slice none 0 0,.slice none 0 0,.slice none 0 0,.slice none 0 0] 44);have hw2:=Zfc w (.cells #[.int .i64 x.id,.int .i64 x.boot,.int .i64 x.net.n,.slice a1 x.net.ls.length c1,.slice a2 x.net.ts.length c2,.slice a3 x.heard.length c3,.slice a4 ps.length c4,.slice a5 es.length c5] 32) (.cells #[.int .i64 0,.int .i64 0,.int .i64 0,.slice none 0 0,.slice none 0 0,.slice none 0 0,.slice none 0 0,.slice none 0 0] 44) (.cells #[.int .i64 0,.int .i64 0,.int .i64 0,.slice none 0 0,.slice none 0 0,.slice none 0 0,.slice none 0 0,.slice none 0 0] 44);have bw:=Zbk (w:=w) (.cells #[.int .i64 x.id,.int .i64 x.boot,.int .i64 x.net.n,.slice a1 x.net.ls.length c1,.slice a2 x.net.ts.length c2,.slice a3 x.heard.length c3,.slice a4 ps.length c4,.slice a5 es.length c5] 32) (.cells #[.int .i64 0,.int .i64 0,.int .i64 0,.slice none 0 0,.slice none 0 0,.slice none 0 0,.slice none 0 0,.slice none 0 0] 44) (.cells #[.int .i64 0,.int .i64 0,.int .i64 0,.slice none 0 0,.slice none 0 0,.slice none 0 0,.slice none 0 0,.slice none 0 0] 44);generalize (((w.alloc (.cells #[.int .i64 x.id,.int .i64 x.boot,.int .i64 x.net.n,.slice a1 x.net.ls.length c1,.slice a2 x.net.ts.length c2,.slice a3 x.heard.length c3,.slice a4 ps.length c4,.slice a5 es.length c5] 32)).alloc (.cells #[.int .i64 0,.int .i64 0,.int .i64 0,.slice none 0 0,.slice none 0 0,.slice none 0 0,.slice none 0 0,.slice none 0 0] 44)).alloc (.cells #[.int .i64 0,.int .i64 0,.int .i64 0,.slice none 0 0,.slice none 0 0,.slice none 0 0,.slice none 0 0,.slice none 0 0] 44))=w1 at *;refine (ZmB _ _ _ _ x ps w1 hS (HX.out.then bw).self).mono ?_
 rintro e w2 ⟨u1,u2,u3,u4,qs,m1,m2,rfl,fq,ow,b2⟩;obtain⟨⟨p1,d1,rfl⟩,⟨p2,d2,rfl⟩,⟨p3,d3,rfl⟩,⟨p4,d4,rfl⟩⟩:=ow.in.shapes;have l2:=Zab hw2;rw [<-b2.block _ (Zab hw0)] at hw0;rw [<-b2.block _ (Zab hw1)] at hw1;rw [<-b2.block _ l2] at hw2;have hb12:w.heap.size<=w1.heap.size:=bw.size;have hb22:w1.heap.size<=w2.heap.size:=b2.size;have bw2:Below w.heap.size w w2:=bw.trans (b2.mono hb12);have s0:=Zaa hw2 0;have f0:=Zae hw2 0;have s1:=Zaa hw2 1;have f1:=Zae hw2 1;have s2:=Zaa hw2 2;have f2:=Zae hw2 2;have s3:=Zaa hw2 3;have f3:=Zae hw2 3;have s4:=Zaa hw2 4;have f4:=Zae hw2 4;have s5:=Zaa hw2 5;have f5:=Zae hw2 5;have s6:=Zaa hw2 6;have f6:=Zae hw2 6;simp at s0 s1 s2 s3 s4 s5 s6
 have t7:=Zaa hw0 7;simp at t7
 have O:=hide ow;have HW0:=hide hw0;have HW1:=hide hw1;have HW2:=hide hw2;have FQ:=hide fq;clear ow hw0 hw1 hw2 fq
 go_wp2_with fail
 have o3:SelfOwn (((((((w2.setCell ⟨w.heap.size+1+1,0,none⟩ (.int .i64 x.id)).setCell ⟨w.heap.size+1+1,1,none⟩ (.int .i64 x.boot)).setCell ⟨w.heap.size+1+1,2,none⟩ (.int .i64 x.net.n)).setCell ⟨w.heap.size+1+1,3,none⟩ (.slice p1 x.net.ls.length d1)).setCell ⟨w.heap.size+1+1,4,none⟩ (.slice p2 x.net.ts.length d2)).setCell ⟨w.heap.size+1+1,5,none⟩ (.slice p3 x.heard.length d3)).setCell ⟨w.heap.size+1+1,6,none⟩ (.slice p4 qs.length d4)) w1.heap.size w2.heap.size (.slice p1 x.net.ls.length d1) (.slice p2 x.net.ts.length d2) (.slice p3 x.heard.length d3) (.slice p4 qs.length d4) x qs m1 m2:=O.out.keep (fun k h1 _ _=>by
  rw [heap_setCell_other _ ⟨w.heap.size+1+1,6,none⟩ _ _ (by show k≠w.heap.size+1+1;omega),heap_setCell_other _ ⟨w.heap.size+1+1,5,none⟩ _ _ (by show k≠w.heap.size+1+1;omega),heap_setCell_other _ ⟨w.heap.size+1+1,4,none⟩ _ _ (by show k≠w.heap.size+1+1;omega),heap_setCell_other _ ⟨w.heap.size+1+1,3,none⟩ _ _ (by show k≠w.heap.size+1+1;omega),heap_setCell_other _ ⟨w.heap.size+1+1,2,none⟩ _ _ (by show k≠w.heap.size+1+1;omega),heap_setCell_other _ ⟨w.heap.size+1+1,1,none⟩ _ _ (by show k≠w.heap.size+1+1;omega),heap_setCell_other _ ⟨w.heap.size+1+1,0,none⟩ _ _ (by show k≠w.heap.size+1+1;omega)])
 have q0:(((((((w2.setCell ⟨w.heap.size+1+1,0,none⟩ (.int .i64 x.id)).setCell ⟨w.heap.size+1+1,1,none⟩ (.int .i64 x.boot)).setCell ⟨w.heap.size+1+1,2,none⟩ (.int .i64 x.net.n)).setCell ⟨w.heap.size+1+1,3,none⟩ (.slice p1 x.net.ls.length d1)).setCell ⟨w.heap.size+1+1,4,none⟩ (.slice p2 x.net.ts.length d2)).setCell ⟨w.heap.size+1+1,5,none⟩ (.slice p3 x.heard.length d3)).setCell ⟨w.heap.size+1+1,6,none⟩ (.slice p4 qs.length d4)).heap[w.heap.size]? = some (.cells #[.int .i64 x.id,.int .i64 x.boot,.int .i64 x.net.n,.slice a1 x.net.ls.length c1,.slice a2 x.net.ts.length c2,.slice a3 x.heard.length c3,.slice a4 ps.length c4,.slice a5 es.length c5] 32):=by
  rw [heap_setCell_other _ ⟨w.heap.size+1+1,6,none⟩ _ _ (by show w.heap.size≠w.heap.size+1+1;omega),heap_setCell_other _ ⟨w.heap.size+1+1,5,none⟩ _ _ (by show w.heap.size≠w.heap.size+1+1;omega),heap_setCell_other _ ⟨w.heap.size+1+1,4,none⟩ _ _ (by show w.heap.size≠w.heap.size+1+1;omega),heap_setCell_other _ ⟨w.heap.size+1+1,3,none⟩ _ _ (by show w.heap.size≠w.heap.size+1+1;omega),heap_setCell_other _ ⟨w.heap.size+1+1,2,none⟩ _ _ (by show w.heap.size≠w.heap.size+1+1;omega),heap_setCell_other _ ⟨w.heap.size+1+1,1,none⟩ _ _ (by show w.heap.size≠w.heap.size+1+1;omega),heap_setCell_other _ ⟨w.heap.size+1+1,0,none⟩ _ _ (by show w.heap.size≠w.heap.size+1+1;omega)]
  exact HW0.out
 have q1:(((((((w2.setCell ⟨w.heap.size+1+1,0,none⟩ (.int .i64 x.id)).setCell ⟨w.heap.size+1+1,1,none⟩ (.int .i64 x.boot)).setCell ⟨w.heap.size+1+1,2,none⟩ (.int .i64 x.net.n)).setCell ⟨w.heap.size+1+1,3,none⟩ (.slice p1 x.net.ls.length d1)).setCell ⟨w.heap.size+1+1,4,none⟩ (.slice p2 x.net.ts.length d2)).setCell ⟨w.heap.size+1+1,5,none⟩ (.slice p3 x.heard.length d3)).setCell ⟨w.heap.size+1+1,6,none⟩ (.slice p4 qs.length d4)).heap[w.heap.size+1]? = some (.cells #[.int .i64 0,.int .i64 0,.int .i64 0,.slice none 0 0,.slice none 0 0,.slice none 0 0,.slice none 0 0,.slice none 0 0] 44):=by
  rw [heap_setCell_other _ ⟨w.heap.size+1+1,6,none⟩ _ _ (by show w.heap.size+1≠w.heap.size+1+1;omega),heap_setCell_other _ ⟨w.heap.size+1+1,5,none⟩ _ _ (by show w.heap.size+1≠w.heap.size+1+1;omega),heap_setCell_other _ ⟨w.heap.size+1+1,4,none⟩ _ _ (by show w.heap.size+1≠w.heap.size+1+1;omega),heap_setCell_other _ ⟨w.heap.size+1+1,3,none⟩ _ _ (by show w.heap.size+1≠w.heap.size+1+1;omega),heap_setCell_other _ ⟨w.heap.size+1+1,2,none⟩ _ _ (by show w.heap.size+1≠w.heap.size+1+1;omega),heap_setCell_other _ ⟨w.heap.size+1+1,1,none⟩ _ _ (by show w.heap.size+1≠w.heap.size+1+1;omega),heap_setCell_other _ ⟨w.heap.size+1+1,0,none⟩ _ _ (by show w.heap.size+1≠w.heap.size+1+1;omega)]
  exact HW1.out
 have q2:(((((((w2.setCell ⟨w.heap.size+1+1,0,none⟩ (.int .i64 x.id)).setCell ⟨w.heap.size+1+1,1,none⟩ (.int .i64 x.boot)).setCell ⟨w.heap.size+1+1,2,none⟩ (.int .i64 x.net.n)).setCell ⟨w.heap.size+1+1,3,none⟩ (.slice p1 x.net.ls.length d1)).setCell ⟨w.heap.size+1+1,4,none⟩ (.slice p2 x.net.ts.length d2)).setCell ⟨w.heap.size+1+1,5,none⟩ (.slice p3 x.heard.length d3)).setCell ⟨w.heap.size+1+1,6,none⟩ (.slice p4 qs.length d4)).heap[w.heap.size+1+1]? = some (.cells #[.int .i64 x.id,.int .i64 x.boot,.int .i64 x.net.n,.slice p1 x.net.ls.length d1,.slice p2 x.net.ts.length d2,.slice p3 x.heard.length d3,.slice p4 qs.length d4,.slice none 0 0] 44):=by
  have k0:=HW2.out;have k1:=heap_setCell_same _ _ 0 _ _ (.int .i64 x.id) k0;have k2:=heap_setCell_same _ _ 1 _ _ (.int .i64 x.boot) k1;have k3:=heap_setCell_same _ _ 2 _ _ (.int .i64 x.net.n) k2;have k4:=heap_setCell_same _ _ 3 _ _ (.slice p1 x.net.ls.length d1) k3;have k5:=heap_setCell_same _ _ 4 _ _ (.slice p2 x.net.ts.length d2) k4;have k6:=heap_setCell_same _ _ 5 _ _ (.slice p3 x.heard.length d3) k5;have k7:=heap_setCell_same _ _ 6 _ _ (.slice p4 qs.length d4) k6;exact k7
 have bw3:Below w.heap.size w (((((((w2.setCell ⟨w.heap.size+1+1,0,none⟩ (.int .i64 x.id)).setCell ⟨w.heap.size+1+1,1,none⟩ (.int .i64 x.boot)).setCell ⟨w.heap.size+1+1,2,none⟩ (.int .i64 x.net.n)).setCell ⟨w.heap.size+1+1,3,none⟩ (.slice p1 x.net.ls.length d1)).setCell ⟨w.heap.size+1+1,4,none⟩ (.slice p2 x.net.ts.length d2)).setCell ⟨w.heap.size+1+1,5,none⟩ (.slice p3 x.heard.length d3)).setCell ⟨w.heap.size+1+1,6,none⟩ (.slice p4 qs.length d4)):=(((((((bw2.setCell (by show w.heap.size<=w.heap.size+1+1;omega) _).setCell (by show w.heap.size<=w.heap.size+1+1;omega) _).setCell (by show w.heap.size<=w.heap.size+1+1;omega) _).setCell (by show w.heap.size<=w.heap.size+1+1;omega) _).setCell (by show w.heap.size<=w.heap.size+1+1;omega) _).setCell (by show w.heap.size<=w.heap.size+1+1;omega) _).setCell (by show w.heap.size<=w.heap.size+1+1;omega) _)
 have z3:(((((((w2.setCell ⟨w.heap.size+1+1,0,none⟩ (.int .i64 x.id)).setCell ⟨w.heap.size+1+1,1,none⟩ (.int .i64 x.boot)).setCell ⟨w.heap.size+1+1,2,none⟩ (.int .i64 x.net.n)).setCell ⟨w.heap.size+1+1,3,none⟩ (.slice p1 x.net.ls.length d1)).setCell ⟨w.heap.size+1+1,4,none⟩ (.slice p2 x.net.ts.length d2)).setCell ⟨w.heap.size+1+1,5,none⟩ (.slice p3 x.heard.length d3)).setCell ⟨w.heap.size+1+1,6,none⟩ (.slice p4 qs.length d4)).heap.size=w2.heap.size:=by simp
 generalize (((((((w2.setCell ⟨w.heap.size+1+1,0,none⟩ (.int .i64 x.id)).setCell ⟨w.heap.size+1+1,1,none⟩ (.int .i64 x.boot)).setCell ⟨w.heap.size+1+1,2,none⟩ (.int .i64 x.net.n)).setCell ⟨w.heap.size+1+1,3,none⟩ (.slice p1 x.net.ls.length d1)).setCell ⟨w.heap.size+1+1,4,none⟩ (.slice p2 x.net.ts.length d2)).setCell ⟨w.heap.size+1+1,5,none⟩ (.slice p3 x.heard.length d3)).setCell ⟨w.heap.size+1+1,6,none⟩ (.slice p4 qs.length d4))=w3 at *;clear s0 s1 s2 s3 s4 s5 s6 f0 f1 f2 f3 f4 f5 f6 t7 HW0 HW1 HW2 O;refine (Zmw _ es w3 hE (HX.out.ears.then bw3)).mono ?_
 rintro e w4 ⟨u5,rfl,ho5,b4⟩;obtain⟨p5,d5,rfl⟩:=Zac ho5;have hl3:=Zab q2;rw [<-b4.block _ (Zab q1)] at q1;rw [<-b4.block _ hl3] at q2;have hz4:=b4.size;have bw4:Below w.heap.size w w4:=bw3.trans (b4.mono bw3.size);have OW:=hide (show NodeOwn w4 w1.heap.size w4.heap.size (.slice p1 x.net.ls.length d1) (.slice p2 x.net.ts.length d2) (.slice p3 x.heard.length d3) (.slice p4 qs.length d4) (.slice p5 es.length d5) x qs es m1 m2 w3.heap.size from
  ⟨(o3.high (by omega)).below b4 (by omega),hz4,ho5,fun k hk=>(ho5.lt k hk).2⟩)
 have r0:=Zaa q1 0;have t0:=Zaa q2 0;have g0:=Zae q1 0;have r1:=Zaa q1 1;have t1:=Zaa q2 1;have g1:=Zae q1 1;have r2:=Zaa q1 2;have t2:=Zaa q2 2;have g2:=Zae q1 2;have r3:=Zaa q1 3;have t3:=Zaa q2 3;have g3:=Zae q1 3;have r4:=Zaa q1 4;have t4:=Zaa q2 4;have g4:=Zae q1 4;have r5:=Zaa q1 5;have t5:=Zaa q2 5;have g5:=Zae q1 5;have r6:=Zaa q1 6;have t6:=Zaa q2 6;have g6:=Zae q1 6;have r7:=Zaa q1 7;have t7:=Zaa q2 7;have g7:=Zae q1 7;have e7:=Zae q2 7;simp at r0 r1 r2 r3 r4 r5 r6 r7 t0 t1 t2 t3 t4 t5 t6 t7
 have Q1:=hide q1;have Q2:=hide q2;have hl6:=Zab q2;clear o3 ho5 q0 q1 q2
 go_wp2
 have hfin:(((((((((w4.setCell ⟨w.heap.size+1+1,7,none⟩ (.slice p5 es.length d5)).setCell ⟨w.heap.size+1,0,none⟩ (.int .i64 x.id)).setCell ⟨w.heap.size+1,1,none⟩ (.int .i64 x.boot)).setCell ⟨w.heap.size+1,2,none⟩ (.int .i64 x.net.n)).setCell ⟨w.heap.size+1,3,none⟩ (.slice p1 x.net.ls.length d1)).setCell ⟨w.heap.size+1,4,none⟩ (.slice p2 x.net.ts.length d2)).setCell ⟨w.heap.size+1,5,none⟩ (.slice p3 x.heard.length d3)).setCell ⟨w.heap.size+1,6,none⟩ (.slice p4 qs.length d4)).setCell ⟨w.heap.size+1,7,none⟩ (.slice p5 es.length d5)).heap[w.heap.size+1]? = some (.cells #[.int .i64 x.id,.int .i64 x.boot,.int .i64 x.net.n,.slice p1 x.net.ls.length d1,.slice p2 x.net.ts.length d2,.slice p3 x.heard.length d3,.slice p4 qs.length d4,.slice p5 es.length d5] 44):=by
  have k0:(w4.setCell ⟨w.heap.size+1+1,7,none⟩ (.slice p5 es.length d5)).heap[w.heap.size+1]? = some (.cells #[.int .i64 0,.int .i64 0,.int .i64 0,.slice none 0 0,.slice none 0 0,.slice none 0 0,.slice none 0 0,.slice none 0 0] 44):=by
   rw [heap_setCell_other _ ⟨w.heap.size+1+1,7,none⟩ _ _ (by show w.heap.size+1≠w.heap.size+1+1;omega)]
   exact Q1.out
  have k1:=heap_setCell_same _ _ 0 _ _ (.int .i64 x.id) k0;have k2:=heap_setCell_same _ _ 1 _ _ (.int .i64 x.boot) k1;have k3:=heap_setCell_same _ _ 2 _ _ (.int .i64 x.net.n) k2;have k4:=heap_setCell_same _ _ 3 _ _ (.slice p1 x.net.ls.length d1) k3;have k5:=heap_setCell_same _ _ 4 _ _ (.slice p2 x.net.ts.length d2) k4;have k6:=heap_setCell_same _ _ 5 _ _ (.slice p3 x.heard.length d3) k5;have k7:=heap_setCell_same _ _ 6 _ _ (.slice p4 qs.length d4) k6;have k8:=heap_setCell_same _ _ 7 _ _ (.slice p5 es.length d5) k7;exact k8
 have hkeep:∀ k,w1.heap.size<=k->(((((((((w4.setCell ⟨w.heap.size+1+1,7,none⟩ (.slice p5 es.length d5)).setCell ⟨w.heap.size+1,0,none⟩ (.int .i64 x.id)).setCell ⟨w.heap.size+1,1,none⟩ (.int .i64 x.boot)).setCell ⟨w.heap.size+1,2,none⟩ (.int .i64 x.net.n)).setCell ⟨w.heap.size+1,3,none⟩ (.slice p1 x.net.ls.length d1)).setCell ⟨w.heap.size+1,4,none⟩ (.slice p2 x.net.ts.length d2)).setCell ⟨w.heap.size+1,5,none⟩ (.slice p3 x.heard.length d3)).setCell ⟨w.heap.size+1,6,none⟩ (.slice p4 qs.length d4)).setCell ⟨w.heap.size+1,7,none⟩ (.slice p5 es.length d5)).heap[k]? = w4.heap[k]? := fun k hk=>by
  rw [heap_setCell_other _ ⟨w.heap.size+1,7,none⟩ _ _ (by show k≠w.heap.size+1;omega),heap_setCell_other _ ⟨w.heap.size+1,6,none⟩ _ _ (by show k≠w.heap.size+1;omega),heap_setCell_other _ ⟨w.heap.size+1,5,none⟩ _ _ (by show k≠w.heap.size+1;omega),heap_setCell_other _ ⟨w.heap.size+1,4,none⟩ _ _ (by show k≠w.heap.size+1;omega),heap_setCell_other _ ⟨w.heap.size+1,3,none⟩ _ _ (by show k≠w.heap.size+1;omega),heap_setCell_other _ ⟨w.heap.size+1,2,none⟩ _ _ (by show k≠w.heap.size+1;omega),heap_setCell_other _ ⟨w.heap.size+1,1,none⟩ _ _ (by show k≠w.heap.size+1;omega),heap_setCell_other _ ⟨w.heap.size+1,0,none⟩ _ _ (by show k≠w.heap.size+1;omega),heap_setCell_other _ ⟨w.heap.size+1+1,7,none⟩ _ _ (by show k≠w.heap.size+1+1;omega)]
 have hsize:(((((((((w4.setCell ⟨w.heap.size+1+1,7,none⟩ (.slice p5 es.length d5)).setCell ⟨w.heap.size+1,0,none⟩ (.int .i64 x.id)).setCell ⟨w.heap.size+1,1,none⟩ (.int .i64 x.boot)).setCell ⟨w.heap.size+1,2,none⟩ (.int .i64 x.net.n)).setCell ⟨w.heap.size+1,3,none⟩ (.slice p1 x.net.ls.length d1)).setCell ⟨w.heap.size+1,4,none⟩ (.slice p2 x.net.ts.length d2)).setCell ⟨w.heap.size+1,5,none⟩ (.slice p3 x.heard.length d3)).setCell ⟨w.heap.size+1,6,none⟩ (.slice p4 qs.length d4)).setCell ⟨w.heap.size+1,7,none⟩ (.slice p5 es.length d5)).heap.size=w4.heap.size:=by simp
 have hbel:Below w.heap.size w (((((((((w4.setCell ⟨w.heap.size+1+1,7,none⟩ (.slice p5 es.length d5)).setCell ⟨w.heap.size+1,0,none⟩ (.int .i64 x.id)).setCell ⟨w.heap.size+1,1,none⟩ (.int .i64 x.boot)).setCell ⟨w.heap.size+1,2,none⟩ (.int .i64 x.net.n)).setCell ⟨w.heap.size+1,3,none⟩ (.slice p1 x.net.ls.length d1)).setCell ⟨w.heap.size+1,4,none⟩ (.slice p2 x.net.ts.length d2)).setCell ⟨w.heap.size+1,5,none⟩ (.slice p3 x.heard.length d3)).setCell ⟨w.heap.size+1,6,none⟩ (.slice p4 qs.length d4)).setCell ⟨w.heap.size+1,7,none⟩ (.slice p5 es.length d5)):=(((((((((bw4.setCell (by show w.heap.size<=w.heap.size+1+1;omega) _).setCell (by show w.heap.size<=w.heap.size+1;omega) _).setCell (by show w.heap.size<=w.heap.size+1;omega) _).setCell (by show w.heap.size<=w.heap.size+1;omega) _).setCell (by show w.heap.size<=w.heap.size+1;omega) _).setCell (by show w.heap.size<=w.heap.size+1;omega) _).setCell (by show w.heap.size<=w.heap.size+1;omega) _).setCell (by show w.heap.size<=w.heap.size+1;omega) _).setCell (by show w.heap.size<=w.heap.size+1;omega) _)
 try simp only [Exit.inBlock,Exit.then]
 refine bodyPost_ret (results_cell_row rfl _ _ (w.heap.size+1) 44 #[.int .i64 x.id,.int .i64 x.boot,.int .i64 x.net.n,.slice p1 x.net.ls.length d1,.slice p2 x.net.ts.length d2,.slice p3 x.heard.length d3,.slice p4 qs.length d4,.slice p5 es.length d5] (0,0) _ rfl hfin Tryz.underlying44 rfl (by kernel_rfl)) rfl ?_
 exact⟨_,_,_,_,_,qs,_,_,_,rfl,FQ.out,((OW.out.keep (fun k h1 _ _=>hkeep k h1)).low (by omega)).high (by rw [hsize];omega),hbel⟩
theorem Zlx (v1 v2 v3 v4 v5 u1 u2 u3 u4 u5:Value)(x:SelfD)(ps qs:List RP)(es:List Th)(w:World)(ht:Zbm x ps es<=1048576)(h1:NodeIn w v1 v2 v3 v4 v5 x ps es w.heap.size)(h2:NodeIn w u1 u2 u3 u4 u5 x qs es w.heap.size)(he:fsts ps=fsts qs):
  Calls Tryz.prog 9 #[Zd8 x v1 v2 v3 v4 v5,Zd8 x u1 u2 u3 u4 u5] w fun e w'=>e=.returned (.bool true)/\Below w.heap.size w w':=by
 obtain⟨⟨a1,c1,rfl⟩,⟨a2,c2,rfl⟩,⟨a3,c3,rfl⟩,⟨a4,c4,rfl⟩,⟨a5,c5,rfl⟩⟩:=h1.shapes;obtain⟨⟨b1,d1,rfl⟩,⟨b2,d2,rfl⟩,⟨b3,d3,rfl⟩,⟨b4,d4,rfl⟩,⟨b5,d5,rfl⟩⟩:=h2.shapes;have hS:totS x ps<=1048576:=by unfold Zbm at ht;omega
 have hE:es.length<=1048576:=by unfold Zbm at ht;omega
 have H1:=hide h1;have H2:=hide h2;have HE:=hide he;clear h1 h2 he ht
 go_enter Tryz.func9,Tryz.ntmps9
 go_wp2_with fail
 obtain⟨w1,hw1⟩:∃ w1,w1=(w.alloc (.cells #[.int .i64 x.id,.int .i64 x.boot,.int .i64 x.net.n,.slice a1 x.net.ls.length c1,.slice a2 x.net.ts.length c2,.slice a3 x.heard.length c3,.slice a4 ps.length c4,.slice a5 es.length c5] 44)).alloc (.cells #[.int .i64 x.id,.int .i64 x.boot,.int .i64 x.net.n,.slice b1 x.net.ls.length d1,.slice b2 x.net.ts.length d2,.slice b3 x.heard.length d3,.slice b4 qs.length d4,.slice b5 es.length d5] 44):=⟨_,rfl⟩;have B1:Below w.heap.size w w1:=by rw [hw1];exact Zan _ _
 have p0:w1.heap[w.heap.size]? = some (.cells #[.int .i64 x.id,.int .i64 x.boot,.int .i64 x.net.n,.slice a1 x.net.ls.length c1,.slice a2 x.net.ts.length c2,.slice a3 x.heard.length c3,.slice a4 ps.length c4,.slice a5 es.length c5] 44):=by rw [hw1,Below.heap_alloc _ _ _ (by simp),heap_alloc_new]
 have q0:w1.heap[w.heap.size+1]? = some (.cells #[.int .i64 x.id,.int .i64 x.boot,.int .i64 x.net.n,.slice b1 x.net.ls.length d1,.slice b2 x.net.ts.length d2,.slice b3 x.heard.length d3,.slice b4 qs.length d4,.slice b5 es.length d5] 44):=by
  rw [hw1];have:=heap_alloc_new (w.alloc (.cells #[.int .i64 x.id,.int .i64 x.boot,.int .i64 x.net.n,.slice a1 x.net.ls.length c1,.slice a2 x.net.ts.length c2,.slice a3 x.heard.length c3,.slice a4 ps.length c4,.slice a5 es.length c5] 44)) (.cells #[.int .i64 x.id,.int .i64 x.boot,.int .i64 x.net.n,.slice b1 x.net.ls.length d1,.slice b2 x.net.ts.length d2,.slice b3 x.heard.length d3,.slice b4 qs.length d4,.slice b5 es.length d5] 44)
  simpa using this
 rw [<-hw1];clear hw1;refine (Zly _ _ _ _ _ _ _ _ x ps qs w1 hS (H1.out.then B1).self (H2.out.then B1).self HE.out).mono ?_
 rintro e w2 ⟨rfl,b2⟩;have p1:=(b2.block _ (Zab p0)).trans p0;have q1:=(b2.block _ (Zab q0)).trans q0;have B2:Below w.heap.size w w2:=B1.trans (b2.mono B1.size);have s7:=Zaa p1 7;have t7:=Zaa q1 7;simp at s7 t7
 have HEI:=Zlu _ _ es es w2 (H1.out.then B2).ears (H2.out.then B2).ears hE;rw [decide_eq_true rfl] at HEI;have HI:=hide HEI;clear p0 q0 p1 q1 HEI b2
 go_wp2_with fail
 refine HI.out.mono ?_
 rintro e w3 ⟨rfl,b3⟩;have B3:Below w.heap.size w w3:=B2.trans (b3.mono B2.size)
 go_wp2
 go_ret
 exact⟨rfl,B3⟩
def ZbP {α:Type}(ord:α->α->Int)(ls:List α):Nat->Bool
 | 0=>true
 | k+1=>match ls[k]?,ls[k+1]? with
  | some p,some l=>decide (ord p l<0)
  | _,_=>true
theorem ZbV {α:Type}{ord:α->α->Int}{ls:List α}{j:Nat}{p l:α}(hp:ls[j]? = some p)(hl:ls[j+1]? = some l):ZbP ord ls (j+1)=decide (ord p l<0):=by
 simp only [ZbP,hp,hl]
def ascB {α:Type}(ord:α->α->Int)(ls:List α):Bool:=(List.range ls.length).all (ZbP ord ls)
theorem ZaH {n k:Nat}{p:Nat->Bool}(hk:k<n)(h:p k=false):(List.range n).all p=false:=by
 cases e:(List.range n).all p with
 | false=>rfl
 | true=>rw [List.all_eq_true.1 e k (List.mem_range.2 hk)] at h;cases h
theorem Zbl {n:Nat}{p:Nat->Bool}(h:∀ j,j<n->p j=true):(List.range n).all p=true:=List.all_eq_true.2 fun j hj=>h j (List.mem_range.1 hj)
theorem ZaE {k:Nat}{p:Nat->Bool}(h:∀ j,j<k->p j=true)(hk:p k=true):∀ j,j<k+1->p j=true:=fun j hj=>by
 by_cases e:j=k
 ·subst e;exact hk
 ·exact h j (by omega)
def okAt {α:Type}(ok:α->Bool)(ls:List α)(k:Nat):Bool:=match ls[k]? with
 | some l=>ok l
 | none=>true
theorem Zb2 {α:Type}{ok:α->Bool}{ls:List α}{k:Nat}{l:α}(h:ls[k]? = some l):okAt ok ls k=ok l:=by simp only [okAt,h]
def ZbO {α:Type}(ok:α->Bool)(ls:List α):Bool:=(List.range ls.length).all (okAt ok ls)
def inB (x a b:Int):Bool:=decide (a<=x)&&decide (x<=b)
theorem ZbC (x a b:Int)(w:World):Calls Tryz.prog 20 #[.int .i64 x,.int .i64 a,.int .i64 b] w fun e w'=>e=.returned (.bool (inB x a b))/\w=w':=by
 by_cases h1:a<=x <;> by_cases h2:x<=b
 all_goals
  go_enter Tryz.func20,Tryz.ntmps20
  go_wp2
  go_ret
  exact⟨by simp [inB,h1,h2],rfl⟩
theorem Za1 (x a b:Int)(w:World):Calls Tryz.prog 90 #[.int .i64 x,.int .i64 a,.int .i64 b] w fun e w'=>e=.returned (.bool (inB x a b))/\w=w':=by
 by_cases h1:a<=x <;> by_cases h2:x<=b
 all_goals
  go_enter Tryz.func90,Tryz.ntmps90
  go_wp2
  go_ret
  exact⟨by simp [inB,h1,h2],rfl⟩
def cmpN (a b:Int):Int:=if a<b then -1 else if b<a then 1 else 0
theorem Zcp {a b:Int}:cmpN a b=0↔a=b:=by unfold cmpN;split <;> (try split) <;> omega
theorem Zdp {a b:Int}:cmpN a b<0↔a<b:=by unfold cmpN;split <;> (try split) <;> omega
theorem Zjh {a b:Int}(h:b=a):Ending.returned (.int .i64 a)=.returned (.int .i64 b):=by rw [h]
theorem ZiX (a:Int)(w:World):Calls Tryz.prog 186 #[.int .i64 a] w fun e w'=>e=.returned (.bool false)/\w=w':=by
 go_enter Tryz.func186,Tryz.ntmps186
 go_wp2
 go_ret
 exact⟨by simp,rfl⟩
theorem Za5 (a b:Int)(w:World):Calls Tryz.prog 163 #[.int .i64 a,.int .i64 b] w fun e w'=>e=.returned (.int .i64 (cmpN a b))/\w=w':=by
 go_enter Tryz.func163,Tryz.ntmps163
 go_wp2_with fail
 refine (ZiX a _).mono ?_
 rintro e w1 ⟨rfl,rfl⟩
 go_wp2_with fail
 refine (ZiX b _).mono ?_
 rintro e w1 ⟨rfl,rfl⟩
 go_wp2
 all_goals go_ret
 all_goals refine ⟨Zjh ?_,rfl⟩
 all_goals (unfold cmpN;grind)
def orN:List Int->Int
 | []=>0
 | x::xs=>if x=0 then orN xs else x
theorem Zh5:∀ (k:Nat)(l:List Int),(∀ j,j<k->l.getD j 0=0)->orN l=orN (l.drop k)
 | 0,l,_=>by simp
 | k+1,[],_=>by simp
 | k+1,x::xs,h=>by
  have h0:x=0:=by simpa using h 0 (by omega)
  subst h0;have e:orN (0::xs)=orN xs:=by simp [orN]
  rw [e,List.drop_succ_cons];exact Zh5 k xs (fun j hj=>by simpa using h (j+1) (by omega))
theorem orN_at {k:Nat}{l:List Int}(h:∀ j,j<k->l.getD j 0=0)(hk:k<l.length)(hx:l.getD k 0≠0):orN l=l.getD k 0:=by
 rw [Zh5 k l h,List.drop_eq_getElem_cons hk];have e:l.getD k 0=l[k]:=by simp [List.getElem?_eq_getElem hk]
 rw [e] at hx |-;simp only [orN]
 rw [if_neg hx]
theorem ZoV {k:Nat}{l:List Int}(h:∀ j,j<k->l.getD j 0=0)(hk:k=l.length):orN l=0:=by
 rw [Zh5 k l h,List.drop_of_length_le (by omega)]
 rfl
theorem Zps (b n:Nat)(l:List Int)(w:World)(hn:n=l.length)(hs:l.length<=1000)(hc:∀ j,j<l.length->w.cell? ⟨b,j,none⟩=some (.int .i64 (l.getD j 0))):
  Calls Tryz.prog 162 #[.slice (some ⟨b,0,none⟩) n n] w fun e w'=>e=.returned (.int .i64 (orN l))/\w=w':=by
 subst hn;have HC:=hide hc;clear hc
 go_enter Tryz.func162,Tryz.ntmps162
 go_wp2
 go_loopw [8] (fun i wr=>∃ k:Nat,k<=l.length/\i=.int .i64 k/\(∀ j,j<k->l.getD j 0=0)/\w=wr) (fun i _=>l.length-(intOf i).toNat)
 case atStart=>exact ⟨0,by omega,rfl,by omega,rfl⟩
 case round=>
  obtain⟨k,hk,rfl,hno,rfl⟩:=hrel;have HNO:=hide hno;clear hno;by_cases hlt:k<l.length
  ·have hcell:=HC.out k hlt
   by_cases h0:l.getD k 0=0
   ·have hnx:∀ j,j<k+1->l.getD j 0=0:=fun j hj=>by
     by_cases e:j=k
     ·subst e;exact h0
     ·exact HNO.out j (by omega)
    rw [h0] at hcell;have HN:=hide hnx;clear h0 hnx
    go_wp2
    go_roundw
    case rel=>exact ⟨k+1,by omega,by go_num,HN.out,trivial⟩
    case measure=>simp [intOf];omega
   ·obtain ⟨y,hy⟩:∃ y,y=l.getD k 0:=⟨_,rfl⟩
    rw [<-hy] at hcell h0;have hor:orN l=y:=by rw [hy];exact orN_at HNO.out hlt (by rw [<-hy];exact h0)
    have HO:=hide hor;clear hy hor
    go_wp2
    go_ret
    exact⟨Zjh HO.out,rfl⟩
  ·have hk':k=l.length:=by omega
   have HK:=hide hk';clear hk'
   go_wp2
   go_ret
   exact⟨Zjh (ZoV HNO.out HK.out),rfl⟩
theorem ZoW (b:Nat)(x y z:Int)(w:World)(h0:w.cell? ⟨b,0,none⟩=some (.int .i64 x))(h1:w.cell? ⟨b,1,none⟩=some (.int .i64 y))(h2:w.cell? ⟨b,2,none⟩=some (.int .i64 z)):
  Calls Tryz.prog 162 #[.slice (some ⟨b,0,none⟩) 3 3] w fun e w'=>e=.returned (.int .i64 (orN [x,y,z]))/\w=w':=
 Zps b 3 [x,y,z] w rfl (by simp) (fun j hj=>by
  match j,hj with
  | 0,_=>exact h0
  | 1,_=>exact h1
  | 2,_=>exact h2
  | j+3,hj=>exact absurd hj (by simp only [List.length_cons,List.length_nil];omega))
theorem Zjb (b:Nat)(x y:Int)(w:World)(h0:w.cell? ⟨b,0,none⟩=some (.int .i64 x))(h1:w.cell? ⟨b,1,none⟩=some (.int .i64 y)):
  Calls Tryz.prog 162 #[.slice (some ⟨b,0,none⟩) 2 2] w fun e w'=>e=.returned (.int .i64 (orN [x,y]))/\w=w':=
 Zps b 2 [x,y] w rfl (by simp) (fun j hj=>by
  match j,hj with
  | 0,_=>exact h0
  | 1,_=>exact h1
  | j+2,hj=>exact absurd hj (by simp only [List.length_cons,List.length_nil];omega))
theorem ZcF (w1:World)(cs:Array Value)(t:TypeId)(j:Nat)(v:Value)(h:cs[j]? = some v):(w1.alloc (.cells cs t)).drew.cell? ⟨w1.heap.size,j,none⟩=some v:=by
 have:=Zaa (heap_alloc_new w1 (.cells cs t)) j;rw [h] at this;exact this
def ordL (l m:Lk):Int:=orN [cmpN l.a m.a,cmpN l.b m.b,cmpN l.r m.r]
def ordT (l m:Th):Int:=orN [cmpN l.k m.k,cmpN l.o m.o]
theorem ZoY (l m:Lk)(w:World):Calls Tryz.prog 159 #[lkV l,lkV m] w fun e w'=>e=.returned (.int .i64 (ordL l m))/\Below w.heap.size w w':=by
 obtain⟨a,b,c,r⟩:=l;obtain⟨a',b',c',r'⟩:=m;unfold lkV ordL;simp only []
 go_enter Tryz.func159,Tryz.ntmps159
 go_wp2
 obtain⟨w1,hw1⟩:∃ w1,w1=(w.alloc (.cells #[.int .i64 a,.int .i64 b,.int .i64 c,.int .i64 r] 84)).alloc (.cells #[.int .i64 a',.int .i64 b',.int .i64 c',.int .i64 r'] 84):=⟨_,rfl⟩;have B1:Below w.heap.size w w1:=by rw [hw1];exact Zan _ _
 have p0:w1.heap[w.heap.size]? = some (.cells #[.int .i64 a,.int .i64 b,.int .i64 c,.int .i64 r] 84):=by rw [hw1,Below.heap_alloc _ _ _ (by simp),heap_alloc_new]
 have q0:w1.heap[w.heap.size+1]? = some (.cells #[.int .i64 a',.int .i64 b',.int .i64 c',.int .i64 r'] 84):=by
  rw [hw1];have:=heap_alloc_new (w.alloc (.cells #[.int .i64 a,.int .i64 b,.int .i64 c,.int .i64 r] 84)) (.cells #[.int .i64 a',.int .i64 b',.int .i64 c',.int .i64 r'] 84)
  simpa using this
 rw [<-hw1];clear hw1;have s0:=Zaa p0 0;have s1:=Zaa p0 1;have s3:=Zaa p0 3;have t0:=Zaa q0 0;have t1:=Zaa q0 1;have t3:=Zaa q0 3;have hz0:=Zab p0;have hz1:=Zab q0;simp at s0 s1 s3 t0 t1 t3
 clear p0 q0;have hz2:=B1.size
 go_region_held3 (fun W=>W.cell? ⟨w.heap.size,0,none⟩=some (.int .i64 a)/\W.cell? ⟨w.heap.size,1,none⟩=some (.int .i64 b)/\W.cell? ⟨w.heap.size,3,none⟩=some (.int .i64 r)/\W.cell? ⟨w.heap.size+1,0,none⟩=some (.int .i64 a')/\W.cell? ⟨w.heap.size+1,1,none⟩=some (.int .i64 b')/\W.cell? ⟨w.heap.size+1,3,none⟩=some (.int .i64 r')) (first | go_keep | assumption) (first | (go_at_call 163;refine (Za5 _ _ _).mono ?_;rintro e w' ⟨rfl,rfl⟩) | (go_at_call 162;refine (ZoW _ (cmpN a a') (cmpN b b') (cmpN r r') _ ?_ ?_ ?_).mono ?_;(exact ZcF _ _ _ _ _ rfl);(exact ZcF _ _ _ _ _ rfl);(exact ZcF _ _ _ _ _ rfl);rintro e w' ⟨rfl,rfl⟩))
 go_wp2
 go_ret
 exact⟨rfl,B1.drew.alloc B1.size _⟩
theorem Zo0 (l m:Th)(w:World):Calls Tryz.prog 161 #[thV l,thV m] w fun e w'=>e=.returned (.int .i64 (ordT l m))/\Below w.heap.size w w':=by
 obtain⟨o,k,c,f⟩:=l;obtain⟨o',k',c',f'⟩:=m;unfold thV ordT;simp only []
 go_enter Tryz.func161,Tryz.ntmps161
 go_wp2
 obtain⟨w1,hw1⟩:∃ w1,w1=(w.alloc (.cells #[.int .i64 o,.int .i64 k,.int .i64 c,.bool f] 123)).alloc (.cells #[.int .i64 o',.int .i64 k',.int .i64 c',.bool f'] 123):=⟨_,rfl⟩;have B1:Below w.heap.size w w1:=by rw [hw1];exact Zan _ _
 have p0:w1.heap[w.heap.size]? = some (.cells #[.int .i64 o,.int .i64 k,.int .i64 c,.bool f] 123):=by rw [hw1,Below.heap_alloc _ _ _ (by simp),heap_alloc_new]
 have q0:w1.heap[w.heap.size+1]? = some (.cells #[.int .i64 o',.int .i64 k',.int .i64 c',.bool f'] 123):=by
  rw [hw1];have:=heap_alloc_new (w.alloc (.cells #[.int .i64 o,.int .i64 k,.int .i64 c,.bool f] 123)) (.cells #[.int .i64 o',.int .i64 k',.int .i64 c',.bool f'] 123)
  simpa using this
 rw [<-hw1];clear hw1;have s0:=Zaa p0 0;have s1:=Zaa p0 1;have t0:=Zaa q0 0;have t1:=Zaa q0 1;have hz0:=Zab p0;have hz1:=Zab q0;simp at s0 s1 t0 t1
 clear p0 q0;have hz2:=B1.size
 go_region_held3 (fun W=>W.cell? ⟨w.heap.size,0,none⟩=some (.int .i64 o)/\W.cell? ⟨w.heap.size,1,none⟩=some (.int .i64 k)/\W.cell? ⟨w.heap.size+1,0,none⟩=some (.int .i64 o')/\W.cell? ⟨w.heap.size+1,1,none⟩=some (.int .i64 k')) (first | go_keep | assumption) (first | (go_at_call 163;refine (Za5 _ _ _).mono ?_;rintro e w' ⟨rfl,rfl⟩) | (go_at_call 162;refine (Zjb _ (cmpN k k') (cmpN o o') _ ?_ ?_).mono ?_;(exact ZcF _ _ _ _ _ rfl);(exact ZcF _ _ _ _ _ rfl);rintro e w' ⟨rfl,rfl⟩))
 go_wp2
 go_ret
 exact⟨rfl,B1.drew.alloc B1.size _⟩
def Za6 (n:Int)(l:Lk):Bool:=inB n 1 6&&inB l.a 1 n&&inB l.b 1 n&&decide (l.a<l.b)&&inB l.c 1 1000&&inB l.r 0 2
def Zio (a b:Lk):Bool:=decide (a.a<b.a)||(a.a==b.a&&(decide (a.b<b.b)||(a.b==b.b&&decide (a.r<b.r))))
def ZgE (a b:Th):Bool:=decide (a.k<b.k)||(a.k==b.k&&decide (a.o<b.o))
theorem Zkt (n:Int)(l:Lk)(w:World):Calls Tryz.prog 77 #[.int .i64 n,lkV l] w fun e w'=>e=.returned (.bool (Za6 n l))/\Below w.heap.size w w':=by
 obtain⟨a,b,c,r⟩:=l;unfold lkV Za6;simp only []
 generalize hq1:inB n 1 6=q1;generalize hq2:inB a 1 n=q2;generalize hq3:inB b 1 n=q3;generalize hq4:inB c 1 1000=q4;generalize hq5:inB r 0 2=q5;have h1:=ZbC n 1 6;have h2:=ZbC a 1 n;have h3:=ZbC b 1 n;have h4:=ZbC c 1 1000;have h5:=ZbC r 0 2;rw [hq1] at h1;rw [hq2] at h2;rw [hq3] at h3;rw [hq4] at h4;rw [hq5] at h5;have H1:=hide h1;have H2:=hide h2;have H3:=hide h3;have H4:=hide h4;have H5:=hide h5;clear h1 h2 h3 h4 h5 hq1 hq2 hq3 hq4 hq5;cases q1
 ·go_enter Tryz.func77,Tryz.ntmps77
  go_wp2_with fail
  refine (H1.out _).mono ?_
  rintro e w1 ⟨rfl,rfl⟩
  go_wp2
  go_ret
  exact⟨by simp,(Below.refl _ _).alloc (Nat.le_refl _) _⟩
 cases q2
 ·go_enter Tryz.func77,Tryz.ntmps77
  go_wp2_with fail
  refine (H1.out _).mono ?_
  rintro e w1 ⟨rfl,rfl⟩
  go_wp2_with fail
  refine (H2.out _).mono ?_
  rintro e w1 ⟨rfl,rfl⟩
  go_wp2
  go_ret
  exact⟨by simp,(Below.refl _ _).alloc (Nat.le_refl _) _⟩
 cases q3
 ·go_enter Tryz.func77,Tryz.ntmps77
  go_wp2_with fail
  refine (H1.out _).mono ?_
  rintro e w1 ⟨rfl,rfl⟩
  go_wp2_with fail
  refine (H2.out _).mono ?_
  rintro e w1 ⟨rfl,rfl⟩
  go_wp2_with fail
  refine (H3.out _).mono ?_
  rintro e w1 ⟨rfl,rfl⟩
  go_wp2
  go_ret
  exact⟨by simp,(Below.refl _ _).alloc (Nat.le_refl _) _⟩
 by_cases hab:a<b
 ·cases q4
  ·go_enter Tryz.func77,Tryz.ntmps77
   go_wp2_with fail
   refine (H1.out _).mono ?_
   rintro e w1 ⟨rfl,rfl⟩
   go_wp2_with fail
   refine (H2.out _).mono ?_
   rintro e w1 ⟨rfl,rfl⟩
   go_wp2_with fail
   refine (H3.out _).mono ?_
   rintro e w1 ⟨rfl,rfl⟩
   go_wp2_with fail
   refine (H4.out _).mono ?_
   rintro e w1 ⟨rfl,rfl⟩
   go_wp2
   go_ret
   exact⟨by simp,(Below.refl _ _).alloc (Nat.le_refl _) _⟩
  ·go_enter Tryz.func77,Tryz.ntmps77
   go_wp2_with fail
   refine (H1.out _).mono ?_
   rintro e w1 ⟨rfl,rfl⟩
   go_wp2_with fail
   refine (H2.out _).mono ?_
   rintro e w1 ⟨rfl,rfl⟩
   go_wp2_with fail
   refine (H3.out _).mono ?_
   rintro e w1 ⟨rfl,rfl⟩
   go_wp2_with fail
   refine (H4.out _).mono ?_
   rintro e w1 ⟨rfl,rfl⟩
   go_wp2_with fail
   refine (H5.out _).mono ?_
   rintro e w1 ⟨rfl,rfl⟩
   go_wp2
   go_ret
   exact⟨Zag (by rw [decide_eq_true hab];simp),(Below.refl _ _).alloc (Nat.le_refl _) _⟩
 ·go_enter Tryz.func77,Tryz.ntmps77
  go_wp2_with fail
  refine (H1.out _).mono ?_
  rintro e w1 ⟨rfl,rfl⟩
  go_wp2_with fail
  refine (H2.out _).mono ?_
  rintro e w1 ⟨rfl,rfl⟩
  go_wp2_with fail
  refine (H3.out _).mono ?_
  rintro e w1 ⟨rfl,rfl⟩
  go_wp2
  go_ret
  exact⟨Zag (by rw [decide_eq_false (show ¬a<b by omega)];simp),(Below.refl _ _).alloc (Nat.le_refl _) _⟩
theorem Zme (l m:Lk)(w:World):Calls Tryz.prog 78 #[lkV l,lkV m] w fun e w'=>e=.returned (.bool (Zio l m))/\Below w.heap.size w w':=by
 obtain⟨a,b,c,r⟩:=l;obtain⟨a',b',c',r'⟩:=m;unfold lkV
 go_enter Tryz.func78,Tryz.ntmps78
 go_wp2
 all_goals go_ret
 all_goals refine ⟨Zag ?_,Zan _ _⟩
 all_goals (simp only [Zio];grind)
theorem Zmp (l m:Th)(w:World):Calls Tryz.prog 79 #[thV l,thV m] w fun e w'=>e=.returned (.bool (ZgE l m))/\Below w.heap.size w w':=by
 obtain⟨a,b,c,r⟩:=l;obtain⟨a',b',c',r'⟩:=m;unfold thV
 go_enter Tryz.func79,Tryz.ntmps79
 go_wp2
 all_goals go_ret
 all_goals refine ⟨Zag ?_,Zan _ _⟩
 all_goals (simp only [ZgE];grind)
theorem Zj4 (n:Int)(l:Lk)(w:World):Calls Tryz.prog 157 #[.int .i64 n,lkV l] w fun e w'=>e=.returned (.bool (Za6 n l))/\Below w.heap.size w w':=by
 obtain⟨a,b,c,r⟩:=l;unfold lkV Za6;simp only []
 generalize hq1:inB n 1 6=q1;generalize hq2:inB a 1 n=q2;generalize hq3:inB b 1 n=q3;generalize hq4:inB c 1 1000=q4;generalize hq5:inB r 0 2=q5;have h1:=Za1 n 1 6;have h2:=Za1 a 1 n;have h3:=Za1 b 1 n;have h4:=Za1 c 1 1000;have h5:=Za1 r 0 2;rw [hq1] at h1;rw [hq2] at h2;rw [hq3] at h3;rw [hq4] at h4;rw [hq5] at h5;have H1:=hide h1;have H2:=hide h2;have H3:=hide h3;have H4:=hide h4;have H5:=hide h5;clear h1 h2 h3 h4 h5 hq1 hq2 hq3 hq4 hq5;cases q1
 ·go_enter Tryz.func157,Tryz.ntmps157
  go_wp2_with fail
  refine (H1.out _).mono ?_
  rintro e w1 ⟨rfl,rfl⟩
  go_wp2
  go_ret
  exact⟨by simp,(Below.refl _ _).alloc (Nat.le_refl _) _⟩
 cases q2
 ·go_enter Tryz.func157,Tryz.ntmps157
  go_wp2_with fail
  refine (H1.out _).mono ?_
  rintro e w1 ⟨rfl,rfl⟩
  go_wp2_with fail
  refine (H2.out _).mono ?_
  rintro e w1 ⟨rfl,rfl⟩
  go_wp2
  go_ret
  exact⟨by simp,(Below.refl _ _).alloc (Nat.le_refl _) _⟩
 cases q3
 ·go_enter Tryz.func157,Tryz.ntmps157
  go_wp2_with fail
  refine (H1.out _).mono ?_
  rintro e w1 ⟨rfl,rfl⟩
  go_wp2_with fail
  refine (H2.out _).mono ?_
  rintro e w1 ⟨rfl,rfl⟩
  go_wp2_with fail
  refine (H3.out _).mono ?_
  rintro e w1 ⟨rfl,rfl⟩
  go_wp2
  go_ret
  exact⟨by simp,(Below.refl _ _).alloc (Nat.le_refl _) _⟩
 by_cases hab:a<b
 ·cases q4
  ·go_enter Tryz.func157,Tryz.ntmps157
   go_wp2_with fail
   refine (H1.out _).mono ?_
   rintro e w1 ⟨rfl,rfl⟩
   go_wp2_with fail
   refine (H2.out _).mono ?_
   rintro e w1 ⟨rfl,rfl⟩
   go_wp2_with fail
   refine (H3.out _).mono ?_
   rintro e w1 ⟨rfl,rfl⟩
   go_wp2_with fail
   refine (H4.out _).mono ?_
   rintro e w1 ⟨rfl,rfl⟩
   go_wp2
   go_ret
   exact⟨by simp,(Below.refl _ _).alloc (Nat.le_refl _) _⟩
  ·go_enter Tryz.func157,Tryz.ntmps157
   go_wp2_with fail
   refine (H1.out _).mono ?_
   rintro e w1 ⟨rfl,rfl⟩
   go_wp2_with fail
   refine (H2.out _).mono ?_
   rintro e w1 ⟨rfl,rfl⟩
   go_wp2_with fail
   refine (H3.out _).mono ?_
   rintro e w1 ⟨rfl,rfl⟩
   go_wp2_with fail
   refine (H4.out _).mono ?_
   rintro e w1 ⟨rfl,rfl⟩
   go_wp2_with fail
   refine (H5.out _).mono ?_
   rintro e w1 ⟨rfl,rfl⟩
   go_wp2
   go_ret
   exact⟨Zag (by rw [decide_eq_true hab];simp),(Below.refl _ _).alloc (Nat.le_refl _) _⟩
 ·go_enter Tryz.func157,Tryz.ntmps157
  go_wp2_with fail
  refine (H1.out _).mono ?_
  rintro e w1 ⟨rfl,rfl⟩
  go_wp2_with fail
  refine (H2.out _).mono ?_
  rintro e w1 ⟨rfl,rfl⟩
  go_wp2_with fail
  refine (H3.out _).mono ?_
  rintro e w1 ⟨rfl,rfl⟩
  go_wp2
  go_ret
  exact⟨Zag (by rw [decide_eq_false (show ¬a<b by omega)];simp),(Below.refl _ _).alloc (Nat.le_refl _) _⟩
end Go.Proofs.YtnndlmodjkplnaaGreatDoor
