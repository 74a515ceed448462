/-
  NodeR RtsH
-/
import Derived.Test.YtnndlmodjkplnaaGreatDoorFw13
import Derived.Test.YtnndlmodjkplnaaGreatDoorFw27
import Derived.Test.YtnndlmodjkplnaaGreatDoorFw33
import Derived.Test.YtnndlmodjkplnaaGreatDoorFw34
import Derived.Test.YtnndlmodjkplnaaGreatDoorFw35
import Derived.Test.YtnndlmodjkplnaaGreatDoorFw18
namespace Go.Proofs.YtnndlmodjkplnaaGreatDoor
open Go.RowKit
set_option linter.unusedSimpArgs false
set_option linter.unusedVariables false
set_option maxRecDepth 100000
set_option maxHeartbeats 8000000
theorem Zi1 (v:Value)(base n:Nat)(xs:List Value)(q:Int)(w:World)(h1:w.ownsRow base 58 4 v n xs)(hn:n<=1048576)(hq:0<=q)(hq2:q<=1000000000):
  Calls Tryz.prog 37 #[v,.int .i64 q] w fun e w'=>e=.returned (.int .i64 (q+4*(n:Int)))/\w.grownBy w' v.ownBlock:=by
 by_cases h0:n=0
 ·subst h0
  obtain⟨a1,c1,rfl⟩:=Zac h1;clear h1
  go_enter Tryz.func37,Tryz.ntmps37
  go_wp2
  refine wp_loop_rounds 1 ?_
  rw [rounds_succ]
  go_wp2
  go_ret
  exact⟨by simp,Zbb _ _⟩
 ·obtain ⟨g1,c1,rfl,hg1,hl1⟩:=Zb3 h1 (by omega)
  have H1:=hide h1;clear h1 h0
  go_enter Tryz.func37,Tryz.ntmps37
  go_wp2
  go_loopw [5,1] (fun i r wr=>∃ k:Nat,k<=n/\i=.int .i64 k/\r=.int .i64 (q+4*(k:Int))/\(∃ ys,wr.ownsRow base 58 4 (.slice (some ⟨g1,0,none⟩) n c1) n ys)/\w.grownBy wr (some g1)) (fun i _ _=>n-(intOf i).toNat)
  case atStart=>exact ⟨0,by omega,rfl,by simp,⟨xs,H1.out⟩,Zbb _ _⟩
  case round=>
   clear H1;obtain⟨k,hk,rfl,rfl,⟨ys,hown⟩,hnx⟩:=hrel;by_cases hlt:k<n
   ·have hki:(0:Int)<=(k:Int):=by omega
    have hkj:(k:Int)<(n:Int):=by omega
    obtain⟨u0,d0⟩:=ZaX hown (k*4) (by omega)
    obtain⟨u1,d1⟩:=ZaX hown (k*4+1) (by omega)
    obtain⟨u2,d2⟩:=ZaX hown (k*4+2) (by omega)
    obtain⟨u3,d3⟩:=ZaX hown (k*4+3) (by omega)
    have f0:=hown.frozenAt (k*4);have f1:=hown.frozenAt (k*4+1);have f2:=hown.frozenAt (k*4+2);have f3:=hown.frozenAt (k*4+3);have OW:=hide hown;clear hown
    go_wp2
    refine⟨⟨k+1,by omega,by go_num,by go_num,⟨_,((((OW.out.stored (k*4) _).1.stored (k*4+1) _).1.stored (k*4+2) _).1.stored (k*4+3) _).1⟩,Zai (Zai (Zai (Zai hnx (Zaj _ _ _ _)) (Zaj _ _ _ _)) (Zaj _ _ _ _)) (Zaj _ _ _ _)⟩,by simp [intOf];omega⟩
   ·have hkn:k=n:=by omega
    have KN:=hide hkn;clear hkn hown
    go_wp2
    go_ret
    exact⟨ZdQ (by rw [KN.out]),hnx⟩
theorem Zi8 {f r u:Int}{l:Lk}:u∈hits f r l↔Zcb f u r l=true:=by
 simp only [hits,hit1,hit2,Zcb,List.mem_append]
 by_cases h1:l.a=f/\l.r=r <;> by_cases h2:l.b=f/\l.r=r <;> simp [h1,h2] <;> grind
theorem ZkO {ls:List Lk}{f r u:Int}:u∈gath ls f r ls.length↔∃ l∈ls,Zcb f u r l=true:=by
 unfold gath;rw [List.take_length,List.mem_flatMap];exact⟨fun ⟨l,hl,hu⟩=>⟨l,hl,Zi8.1 hu⟩,fun ⟨l,hl,hu⟩=>⟨l,hl,Zi8.2 hu⟩⟩
theorem ZiF {n:Int}{ls:List Lk}(h:∀ l∈ls,Za6 n l=true)(f t r:Int):0<ZbS ls f t r↔∃ l∈ls,Zcb f t r l=true:=by
 constructor
 ·intro hc
  exact ZiD (by omega)
 ·rintro ⟨l,hl,hh⟩
  unfold ZbS;cases hf:ls.find? (Zcb f t r) with
  | none=>exact absurd hh (by simpa using List.find?_eq_none.1 hf l hl)
  | some m=>
   have:=h m (List.mem_of_find?_eq_some hf);unfold Za6 inB at this;simp only [Bool.and_eq_true,decide_eq_true_eq] at this
   simp
   omega
theorem Znz {n:Int}{ls:List Lk}(h:∀ l∈ls,Za6 n l=true)(f r:Int):decide (0<(ZfE ls f r).length)=decide (0<(ZdJ ls f r).length):=by
 rw [ZkZ,decide_eq_decide,List.length_pos_iff_exists_mem,List.length_pos_iff_exists_mem]
 constructor
 ·rintro ⟨u,hu⟩
  obtain⟨l,hl,hh⟩:=ZkO.1 hu;have h1:=h l hl;unfold Za6 inB at h1;simp only [Bool.and_eq_true,decide_eq_true_eq] at h1
  have h2:=hh;unfold Zcb at h2;simp only [Bool.and_eq_true,Bool.or_eq_true,beq_iff_eq] at h2
  refine⟨u,?_⟩
  unfold ZdJ;refine List.mem_filter.2 ⟨?_,decide_eq_true ((ZiF h f u r).2 ⟨l,hl,hh⟩)⟩
  have:1<=u/\u<=6:=by omega
  have:u=1\/u=2\/u=3\/u=4\/u=5\/u=6:=by omega
  simpa using this
 ·rintro ⟨u,hu⟩
  unfold ZdJ at hu;obtain⟨l,hl,hh⟩:=(ZiF h f u r).1 (by simpa using (List.mem_filter.1 hu).2)
  exact⟨u,ZkO.2 ⟨l,hl,hh⟩⟩
theorem ZgY {n:Int}{ls:List Lk}(h:∀ l∈ls,Za6 n l=true)(f:Int):ZeB ls f=Zcd ls f:=by
 unfold ZeB Zcd
 congr 1
 funext r
 exact Znz h f r
theorem ZmW {n:Int}{ls:List Lk}(h:∀ l∈ls,Za6 n l=true)(f:Int):Zlp ls f=ZfV ls f:=by
 unfold Zlp ZfV;rw [ZgY h]
theorem ZfQ (ls:List Lk)(v:Int):(Zcd ls v).length<=3:=by
 unfold Zcd;exact Nat.le_trans (List.length_filter_le _ _) (by simp)
def Zb7 (x:SelfD)(xs:List RecD)(ok:Bool)(l:List RtD):Prop:=if ok=true then ZbU xs (Zcd x.net.ls x.id) (ZfV x.net.ls x.id) x.id l else l=[]
theorem Zb7.unique {x:SelfD}{xs:List RecD}{ok:Bool}{l m:List RtD}(h:Zb7 x xs ok l)(h':Zb7 x xs ok m):l=m:=by
 unfold Zb7 at h h';cases ok with
 | true=>exact ZbU.unique h h'
 | false=>exact h.trans h'.symm
theorem ZdK {x:SelfD}{ps:List RP}{es:List Th}{N:Nat}(h:Zbh x ps es N=true):Zcw x ps=true:=by
 unfold Zbh at h;simp only [Bool.and_eq_true] at h
 exact h.1
theorem Zew {x:SelfD}{ps:List RP}(h:Zcw x ps=true):ZaJ (fsts ps)=true:=by
 unfold Zcw at h;simp only [Bool.and_eq_true] at h
 exact h.2.2.2.2
theorem Zgu {x:SelfD}{ps:List RP}(h:Zcw x ps=true):∀ l∈x.net.ls,Za6 x.net.n l=true:=by
 unfold Zcw Zbq at h;simp only [Bool.and_eq_true] at h
 exact Zfe h.1.1.2
theorem Zb7.tot {x:SelfD}{ps:List RP}{es:List Th}{N:Nat}{l:List RtD}(h:Zb7 x (fsts ps) (Zbh x ps es N) l):ZgU l<=147:=by
 unfold Zb7 at h;cases ho:Zbh x ps es N with
 | true=>
  rw [ho] at h;exact Zmd h (Zew (ZdK ho))
 | false=>
  rw [ho] at h;have:l=[]:=h;subst this;simp [ZgU]
theorem ZnV (W:World)(lo:Nat)(hb:lo<=W.heap.size):RtsOwn (W.alloc (.cells #[] 75)) lo (W.alloc (.cells #[] 75)).heap.size (.slice (some ⟨W.heap.size,0,none⟩) 0 0) [] where
 row:=World.ownsRow_lit W #[] 0 hb (by unfold maxLen;omega) (by simp)
 top:=by intro k hk;simp [Value.ownBlock] at hk;subst hk;simp
 nears:=by simp
 apart:=by simp
theorem Zjm (v1 v2 v3 v4 v5:Value)(x:SelfD)(ps:List RP)(es:List Th)(lo m1 m2 m3:Nat)(w:World)(ht:Zbm x ps es<=1048576)(ho:NodeOwn w lo w.heap.size v1 v2 v3 v4 v5 x ps es m1 m2 m3):
  Calls Tryz.prog 10 #[Zd8 x v1 v2 v3 v4 v5] w fun e w'=>∃ u qs,e=.returned u/\Zb7 x (fsts ps) (Zbh x ps es x.net.n.toNat) (ZaF qs)/\RtsOwn w' w.heap.size w'.heap.size u qs/\Below w.heap.size w w':=by
 have hv:=ho.in;obtain⟨⟨a1,c1,rfl⟩,⟨a2,c2,rfl⟩,⟨a3,c3,rfl⟩,⟨a4,c4,rfl⟩,⟨a5,c5,rfl⟩⟩:=hv.shapes;have hT:tot ps<=1048576:=by unfold Zbm totS at ht;omega
 have hL:x.net.ls.length<=1048576:=by unfold Zbm totS at ht;omega
 have HOK:=hide (fun W (hb:Below w.heap.size w W)=>Zku _ _ _ _ _ x ps es W ht (hv.then hb))
 have HRI:=hide (fun W (hb:Below w.heap.size w W)=>(ho.below hb (Nat.le_refl _)).self.store.in.wide (by have:=ho.o3;have:=hb.size;omega:_<=W.heap.size))
 have HLI:=hide (fun W (hb:Below w.heap.size w W)=>(hv.then hb).self.links)
 have B0:Below w.heap.size w (w.alloc (.cells #[.int .i64 x.id,.int .i64 x.boot,.int .i64 x.net.n,.slice a1 x.net.ls.length c1,.slice a2 x.net.ts.length c2,.slice a3 x.heard.length c3,.slice a4 ps.length c4,.slice a5 es.length c5] 44)):=(Below.refl _ _).alloc (Nat.le_refl _) _;have g0:=heap_alloc_new w (.cells #[.int .i64 x.id,.int .i64 x.boot,.int .i64 x.net.n,.slice a1 x.net.ls.length c1,.slice a2 x.net.ts.length c2,.slice a3 x.heard.length c3,.slice a4 ps.length c4,.slice a5 es.length c5] 44);obtain⟨O,hO⟩:∃ O,O=Zbh x ps es x.net.n.toNat:=⟨_,rfl⟩;rw [<-hO] at HOK |-;cases O with
 | false=>
  clear hO hv ho ht HRI HLI hT hL
  go_enter Tryz.func10,Tryz.ntmps10
  go_wp2_with fail
  refine (HOK.out _ B0).mono ?_
  rintro e w1 ⟨rfl,b1⟩;have B1:Below w.heap.size w w1:=B0.trans (b1.mono B0.size);have BL:Below w.heap.size w (w1.alloc (.cells #[] 75)):=B1.alloc B1.size _;have RL:=hide (ZnV w1 w.heap.size B1.size);clear b1 B0 g0 HOK
  go_wp2
  go_ret
  exact⟨_,[],rfl,rfl,RL.out,BL⟩
 | true=>
  have hself:=ZdK hO.symm;have HST:=hide (Zew hself);have HLK:=hide (Zgu hself);have HAR:=hide (fun W (hb:Below w.heap.size w W)=>Zhr (.int .i64 x.net.n) (.slice a1 x.net.ls.length c1) (.slice a2 x.net.ts.length c2) x.net.ls x.id W hL (HLI.out W hb))
  have HBO:=hide (fun W (hb:Below w.heap.size w W)=>Zkp (.int .i64 x.net.n) (.slice a1 x.net.ls.length c1) (.slice a2 x.net.ts.length c2) x.net.ls x.id W hL (HLI.out W hb))
  have HRO:=hide (fun u W (hb:Below w.heap.size w W) (ha:ZaG W u (Zcd x.net.ls x.id) W.heap.size)=>Zkv (.slice a4 ps.length c4) u ps (Zcd x.net.ls x.id) W.heap.size (ZfV x.net.ls x.id) x.id W (HRI.out W hb) ha (Nat.le_refl _) hT (Nat.le_trans (ZfQ _ _) (by omega)) HST.out)
  obtain⟨al,hal⟩:∃ al,al=Zcd x.net.ls x.id:=⟨_,rfl⟩;obtain⟨bo,hbo⟩:∃ bo,bo=ZfV x.net.ls x.id:=⟨_,rfl⟩;have HRN:=hide (show ∀ l,ZbU (fsts ps) al bo x.id l->Zb7 x (fsts ps) true l from fun l h=>by rw [hal,hbo] at h;exact h)
  rw [<-hal] at HAR HRO;rw [<-hbo] at HBO HRO;clear hO hv ho ht HRI HLI hT hL hself HST HLK hal hbo
  go_enter Tryz.func10,Tryz.ntmps10
  go_wp2_with fail
  refine (HOK.out _ B0).mono ?_
  rintro e w1 ⟨rfl,b1⟩;have B1:Below w.heap.size w w1:=B0.trans (b1.mono B0.size);have g1:=(b1.block _ (Zab g0)).trans g0;have s0:=Zaa g1 0;have s1:=Zaa g1 1;have s2:=Zaa g1 2;have s3:=Zaa g1 3;have s4:=Zaa g1 4;have s5:=Zaa g1 5;have s6:=Zaa g1 6;simp at s0 s1 s2 s3 s4 s5 s6
  have BS:Below w1.heap.size w1 (w1.alloc (.cells #[.int .i64 x.id,.int .i64 x.boot,.int .i64 x.net.n,.slice a1 x.net.ls.length c1,.slice a2 x.net.ts.length c2,.slice a3 x.heard.length c3,.slice a4 ps.length c4] 41)):=(Below.refl _ _).alloc (Nat.le_refl _) _;have gs:=heap_alloc_new w1 (.cells #[.int .i64 x.id,.int .i64 x.boot,.int .i64 x.net.n,.slice a1 x.net.ls.length c1,.slice a2 x.net.ts.length c2,.slice a3 x.heard.length c3,.slice a4 ps.length c4] 41);have B2:Below w.heap.size w (w1.alloc (.cells #[.int .i64 x.id,.int .i64 x.boot,.int .i64 x.net.n,.slice a1 x.net.ls.length c1,.slice a2 x.net.ts.length c2,.slice a3 x.heard.length c3,.slice a4 ps.length c4] 41)):=B1.trans (BS.mono B1.size);have hz1:w1.heap.size<(w1.alloc (.cells #[.int .i64 x.id,.int .i64 x.boot,.int .i64 x.net.n,.slice a1 x.net.ls.length c1,.slice a2 x.net.ts.length c2,.slice a3 x.heard.length c3,.slice a4 ps.length c4] 41)).heap.size:=by simp
  clear b1 B0 g0 g1 HOK BS B1;have GS:=hide gs;have HB2:=hide B2;clear gs B2;have t0:=Zaa GS.out 0;have t2:=Zaa GS.out 2;have t3:=Zaa GS.out 3;have t4:=Zaa GS.out 4;have t6:=Zaa GS.out 6;simp only [List.getElem?_toArray,List.getElem?_cons_succ,List.getElem?_cons_zero] at t0 t2 t3 t4 t6
  go_wp2
  obtain⟨z,hz⟩:∃ z,z=w1.heap.size:=⟨_,rfl⟩;obtain⟨w2,hw2⟩:∃ W,W=w1.alloc (.cells #[.int .i64 x.id,.int .i64 x.boot,.int .i64 x.net.n,.slice a1 x.net.ls.length c1,.slice a2 x.net.ts.length c2,.slice a3 x.heard.length c3,.slice a4 ps.length c4] 41):=⟨_,rfl⟩;rw [<-hw2] at HB2 GS t0 t2 t3 t4 t6 hz1 |-;rw [<-hz] at GS t0 t2 t3 t4 t6 hz1 |-;clear hw2 hz s0 s1 s2 s3 s4 s5 s6 GS;have HAD:=hide (HAR.out w2.drew HB2.out.drew);have BD:=hide HB2.out.drew;clear HAR
  go_region_held3 (fun W=>W.cell? ⟨z,0,none⟩=some (.int .i64 x.id)/\W.cell? ⟨z,2,none⟩=some (.int .i64 x.net.n)/\W.cell? ⟨z,3,none⟩=some (.slice a1 x.net.ls.length c1)/\W.cell? ⟨z,4,none⟩=some (.slice a2 x.net.ts.length c2)/\W.cell? ⟨z,6,none⟩=some (.slice a4 ps.length c4)) (first | go_keep | (refine ⟨?_,?_,?_,?_,?_⟩ <;> (rw [b5.cell (Nat.lt_of_lt_of_le (Nat.lt_of_lt_of_le (by assumption) b3.size) b4.size),b4.cell (Nat.lt_of_lt_of_le (by assumption) b3.size),b3.cell (by assumption)];assumption)) | (refine ⟨?_,?_,?_,?_,?_⟩ <;> (rw [b4.cell (Nat.lt_of_lt_of_le (by assumption) b3.size),b3.cell (by assumption)];assumption)) | (refine ⟨?_,?_,?_,?_,?_⟩ <;> (rw [b3.cell (by assumption)];assumption))) (first | (go_at_call 30;refine HAD.out.mono ?_;rintro e w3 ⟨u,rfl,ou,b3⟩) | (go_at_call 31;refine (HBO.out _ (BD.out.trans (b3.mono BD.out.size))).mono ?_;rintro e w4 ⟨rfl,b4⟩) | (go_at_call 29;refine (HRO.out u _ ((BD.out.trans (b3.mono BD.out.size)).trans (b4.mono (BD.out.trans (b3.mono BD.out.size)).size)) (ZaL.then (Za4 (by rw [ZcC];exact ou)) b4)).mono ?_;rintro e w5 ⟨ur,qs,rfl,hir,hor,b5⟩))
  have B3:Below w.heap.size w w3:=BD.out.trans (b3.mono BD.out.size);have B4:Below w.heap.size w w4:=B3.trans (b4.mono B3.size);have B5:Below w.heap.size w w5:=B4.trans (b5.mono B4.size);obtain⟨ra,rc,rfl⟩:=Zac hor.row;have HF:=hide (HRN.out _ hir);have HO5:=hide (hor.wide B4.size (Nat.le_refl _));clear hir hor
  go_wp2
  go_ret
  exact⟨_,qs,rfl,HF.out,HO5.out,B5⟩
theorem Zfu (v1 v2 v3 v4 v5:Value)(x:SelfD)(ps:List RP)(es:List Th)(lo m1 m2 m3:Nat)(w:World)(hg:Zce w)(ht:Zbm x ps es<=1048576)(ho:NodeOwn w lo w.heap.size v1 v2 v3 v4 v5 x ps es m1 m2 m3):
  Calls Tryz.prog 11 #[Zd8 x v1 v2 v3 v4 v5] w fun e w'=>∃ u qs,e=.returned u/\Zb7 x (fsts ps) (Zbh x ps es x.net.n.toNat) (ZaF qs)/\RtsOwn w' w.heap.size w'.heap.size u qs/\Below w.heap.size w w':=by
 have hv:=ho.in;obtain⟨⟨a1,c1,rfl⟩,⟨a2,c2,rfl⟩,⟨a3,c3,rfl⟩,⟨a4,c4,rfl⟩,⟨a5,c5,rfl⟩⟩:=hv.shapes;have hT:tot ps<=1048576:=by unfold Zbm totS at ht;omega
 have hL:x.net.ls.length<=1048576:=by unfold Zbm totS at ht;omega
 have HOK:=hide (fun W (hb:Below w.heap.size w W)=>Zj7 _ _ _ _ _ x ps es W (hg.below hb hg.pos) ht (hv.then hb))
 have HRI:=hide (fun W (hb:Below w.heap.size w W)=>(ho.below hb (Nat.le_refl _)).self.store.in.wide (by have:=ho.o3;have:=hb.size;omega:_<=W.heap.size))
 have HLI:=hide (fun W (hb:Below w.heap.size w W)=>(hv.then hb).self.links)
 have B0:Below w.heap.size w (w.alloc (.cells #[.int .i64 x.id,.int .i64 x.boot,.int .i64 x.net.n,.slice a1 x.net.ls.length c1,.slice a2 x.net.ts.length c2,.slice a3 x.heard.length c3,.slice a4 ps.length c4,.slice a5 es.length c5] 44)):=(Below.refl _ _).alloc (Nat.le_refl _) _;have g0:=heap_alloc_new w (.cells #[.int .i64 x.id,.int .i64 x.boot,.int .i64 x.net.n,.slice a1 x.net.ls.length c1,.slice a2 x.net.ts.length c2,.slice a3 x.heard.length c3,.slice a4 ps.length c4,.slice a5 es.length c5] 44);obtain⟨O,hO⟩:∃ O,O=Zbh x ps es x.net.n.toNat:=⟨_,rfl⟩;rw [<-hO] at HOK |-;cases O with
 | false=>
  clear hO hv ho ht HRI HLI hT hL
  go_enter Tryz.func11,Tryz.ntmps11
  go_wp2_with fail
  refine (HOK.out _ B0).mono ?_
  rintro e w1 ⟨rfl,b1⟩;have B1:Below w.heap.size w w1:=B0.trans (b1.mono B0.size);have BL:Below w.heap.size w (w1.alloc (.cells #[] 75)):=B1.alloc B1.size _;have RL:=hide (ZnV w1 w.heap.size B1.size);clear b1 B0 g0 HOK
  go_wp2
  go_ret
  exact⟨_,[],rfl,rfl,RL.out,BL⟩
 | true=>
  have hself:=ZdK hO.symm;have HST:=hide (Zew hself);have HLK:=hide (Zgu hself);have HAR:=hide (fun W (hb:Below w.heap.size w W)=>Zhb (.int .i64 x.net.n) (.slice a1 x.net.ls.length c1) (.slice a2 x.net.ts.length c2) x.net.ls x.id W hL (HLI.out W hb))
  have HBO:=hide (fun W (hb:Below w.heap.size w W)=>Zj3 (.int .i64 x.net.n) (.slice a1 x.net.ls.length c1) (.slice a2 x.net.ts.length c2) x.net.ls x.id W hL (HLI.out W hb))
  rw [ZgY HLK.out] at HAR;rw [ZmW HLK.out] at HBO;have HRO:=hide (fun u W (hb:Below w.heap.size w W) (ha:ZaG W u (Zcd x.net.ls x.id) W.heap.size)=>Zj9 (.slice a4 ps.length c4) u ps (Zcd x.net.ls x.id) W.heap.size (ZfV x.net.ls x.id) x.id W (HRI.out W hb) ha (Nat.le_refl _) hT (Nat.le_trans (ZfQ _ _) (by omega)) HST.out)
  obtain⟨al,hal⟩:∃ al,al=Zcd x.net.ls x.id:=⟨_,rfl⟩;obtain⟨bo,hbo⟩:∃ bo,bo=ZfV x.net.ls x.id:=⟨_,rfl⟩;have HRN:=hide (show ∀ l,ZbU (fsts ps) al bo x.id l->Zb7 x (fsts ps) true l from fun l h=>by rw [hal,hbo] at h;exact h)
  rw [<-hal] at HAR HRO;rw [<-hbo] at HBO HRO;clear hO hv ho ht HRI HLI hT hL hself HST HLK hal hbo
  go_enter Tryz.func11,Tryz.ntmps11
  go_wp2_with fail
  refine (HOK.out _ B0).mono ?_
  rintro e w1 ⟨rfl,b1⟩;have B1:Below w.heap.size w w1:=B0.trans (b1.mono B0.size);have g1:=(b1.block _ (Zab g0)).trans g0;have s0:=Zaa g1 0;have s1:=Zaa g1 1;have s2:=Zaa g1 2;have s3:=Zaa g1 3;have s4:=Zaa g1 4;have s5:=Zaa g1 5;have s6:=Zaa g1 6;simp at s0 s1 s2 s3 s4 s5 s6
  have BS:Below w1.heap.size w1 (w1.alloc (.cells #[.int .i64 x.id,.int .i64 x.boot,.int .i64 x.net.n,.slice a1 x.net.ls.length c1,.slice a2 x.net.ts.length c2,.slice a3 x.heard.length c3,.slice a4 ps.length c4] 41)):=(Below.refl _ _).alloc (Nat.le_refl _) _;have gs:=heap_alloc_new w1 (.cells #[.int .i64 x.id,.int .i64 x.boot,.int .i64 x.net.n,.slice a1 x.net.ls.length c1,.slice a2 x.net.ts.length c2,.slice a3 x.heard.length c3,.slice a4 ps.length c4] 41);have B2:Below w.heap.size w (w1.alloc (.cells #[.int .i64 x.id,.int .i64 x.boot,.int .i64 x.net.n,.slice a1 x.net.ls.length c1,.slice a2 x.net.ts.length c2,.slice a3 x.heard.length c3,.slice a4 ps.length c4] 41)):=B1.trans (BS.mono B1.size);have hz1:w1.heap.size<(w1.alloc (.cells #[.int .i64 x.id,.int .i64 x.boot,.int .i64 x.net.n,.slice a1 x.net.ls.length c1,.slice a2 x.net.ts.length c2,.slice a3 x.heard.length c3,.slice a4 ps.length c4] 41)).heap.size:=by simp
  clear b1 B0 g0 g1 HOK BS B1;have GS:=hide gs;have HB2:=hide B2;clear gs B2;have t0:=Zaa GS.out 0;have t2:=Zaa GS.out 2;have t3:=Zaa GS.out 3;have t4:=Zaa GS.out 4;have t6:=Zaa GS.out 6;simp only [List.getElem?_toArray,List.getElem?_cons_succ,List.getElem?_cons_zero] at t0 t2 t3 t4 t6
  go_wp2
  obtain⟨z,hz⟩:∃ z,z=w1.heap.size:=⟨_,rfl⟩;obtain⟨w2,hw2⟩:∃ W,W=w1.alloc (.cells #[.int .i64 x.id,.int .i64 x.boot,.int .i64 x.net.n,.slice a1 x.net.ls.length c1,.slice a2 x.net.ts.length c2,.slice a3 x.heard.length c3,.slice a4 ps.length c4] 41):=⟨_,rfl⟩;rw [<-hw2] at HB2 GS t0 t2 t3 t4 t6 hz1 |-;rw [<-hz] at GS t0 t2 t3 t4 t6 hz1 |-;clear hw2 hz s0 s1 s2 s3 s4 s5 s6 GS;have HAD:=hide (HAR.out w2.drew HB2.out.drew);have BD:=hide HB2.out.drew;clear HAR
  go_region_held3 (fun W=>W.cell? ⟨z,0,none⟩=some (.int .i64 x.id)/\W.cell? ⟨z,2,none⟩=some (.int .i64 x.net.n)/\W.cell? ⟨z,3,none⟩=some (.slice a1 x.net.ls.length c1)/\W.cell? ⟨z,4,none⟩=some (.slice a2 x.net.ts.length c2)/\W.cell? ⟨z,6,none⟩=some (.slice a4 ps.length c4)) (first | go_keep | (refine ⟨?_,?_,?_,?_,?_⟩ <;> (rw [b5.cell (Nat.lt_of_lt_of_le (Nat.lt_of_lt_of_le (by assumption) b3.size) b4.size),b4.cell (Nat.lt_of_lt_of_le (by assumption) b3.size),b3.cell (by assumption)];assumption)) | (refine ⟨?_,?_,?_,?_,?_⟩ <;> (rw [b4.cell (Nat.lt_of_lt_of_le (by assumption) b3.size),b3.cell (by assumption)];assumption)) | (refine ⟨?_,?_,?_,?_,?_⟩ <;> (rw [b3.cell (by assumption)];assumption))) (first | (go_at_call 33;refine HAD.out.mono ?_;rintro e w3 ⟨u,rfl,ou,b3⟩) | (go_at_call 34;refine (HBO.out _ (BD.out.trans (b3.mono BD.out.size))).mono ?_;rintro e w4 ⟨rfl,b4⟩) | (go_at_call 32;refine (HRO.out u _ ((BD.out.trans (b3.mono BD.out.size)).trans (b4.mono (BD.out.trans (b3.mono BD.out.size)).size)) (ZaL.then (Za4 (by rw [ZcC];exact ou)) b4)).mono ?_;rintro e w5 ⟨ur,qs,rfl,hir,hor,b5⟩))
  have B3:Below w.heap.size w w3:=BD.out.trans (b3.mono BD.out.size);have B4:Below w.heap.size w w4:=B3.trans (b4.mono B3.size);have B5:Below w.heap.size w w5:=B4.trans (b5.mono B4.size);obtain⟨ra,rc,rfl⟩:=Zac hor.row;have HF:=hide (HRN.out _ hir);have HO5:=hide (hor.wide B4.size (Nat.le_refl _));clear hir hor
  go_wp2
  go_ret
  exact⟨_,qs,rfl,HF.out,HO5.out,B5⟩
theorem Zi3 (v1 v2 v3 v4 v5:Value)(x:SelfD)(ps:List RP)(es:List Th)(lo hi m1 m2 m3:Nat)(w:World)(h:NodeOwn w lo hi v1 v2 v3 v4 v5 x ps es m1 m2 m3)(hhi:hi<=w.heap.size)(ht:Zbm x ps es<=1048576):
  Calls Tryz.prog 13 #[Zd8 x v1 v2 v3 v4 v5,.int .i64 1] w fun e w'=>∃ k:Int,e=.returned (.int .i64 k)/\0<=k/\Frame lo hi w w':=by
 obtain⟨⟨a1,c1,rfl⟩,⟨a2,c2,rfl⟩,⟨a3,c3,rfl⟩,⟨a4,c4,rfl⟩,⟨a5,c5,rfl⟩⟩:=h.in.shapes;have hS:totS x ps<=1048576:=by unfold Zbm at ht;omega
 have hE:es.length<=1048576:=by unfold Zbm at ht;omega
 have B0:Below w.heap.size w (w.alloc (.cells #[.int .i64 x.id,.int .i64 x.boot,.int .i64 x.net.n,.slice a1 x.net.ls.length c1,.slice a2 x.net.ts.length c2,.slice a3 x.heard.length c3,.slice a4 ps.length c4,.slice a5 es.length c5] 44)):=(Below.refl _ _).alloc (Nat.le_refl _) _;have g0:=heap_alloc_new w (.cells #[.int .i64 x.id,.int .i64 x.boot,.int .i64 x.net.n,.slice a1 x.net.ls.length c1,.slice a2 x.net.ts.length c2,.slice a3 x.heard.length c3,.slice a4 ps.length c4,.slice a5 es.length c5] 44);have h0:=h.below B0 hhi;have HMS:=hide (Zi4 _ _ _ _ x ps lo m3 m1 m2 1 _ h0.self (by have:=h.o3;simp;omega) hS (by omega) (by omega))
 have hbd:0<=mkE (mkAt 1 x) ps/\mkE (mkAt 1 x) ps<=100000000:=by
  have h1:=Znv (mkAt 1 x) ps;have h2:mkAt 1 x=1+4*(x.net.ls.length:Int)+4*(x.net.ts.length:Int)+(x.heard.length:Int):=rfl;unfold totS at hS;omega
 obtain⟨k0,hk0⟩:∃ k0,k0=mkE (mkAt 1 x) ps:=⟨_,rfl⟩;rw [<-hk0] at HMS hbd;have F0:Frame lo hi w (w.alloc (.cells #[.int .i64 x.id,.int .i64 x.boot,.int .i64 x.net.n,.slice a1 x.net.ls.length c1,.slice a2 x.net.ts.length c2,.slice a3 x.heard.length c3,.slice a4 ps.length c4,.slice a5 es.length c5] 44)):=⟨B0.os,B0.tape,B0.output,B0.size,fun k hk _=>B0.block k hk⟩
 have HH:=hide h0;have HF0:=hide F0;have G0:=hide g0;have HO3:=hide h.o3;have HO0:=hide (show lo<=m3 by have:=h.self.o1;have:=h.self.o2;have:=h.self.o3;omega)
 have HBLK:=hide (fun k (hk:Zhz (.slice a1 x.net.ls.length c1) (.slice a2 x.net.ts.length c2) (.slice a3 x.heard.length c3) (.slice a4 ps.length c4) ps k)=>h0.self.blk k hk)
 clear hk0 h h0 F0 g0 B0
 go_enter Tryz.func13,Tryz.ntmps13
 go_wp2_with fail
 obtain⟨w0,hw0⟩:∃ W,W=w.alloc (.cells #[.int .i64 x.id,.int .i64 x.boot,.int .i64 x.net.n,.slice a1 x.net.ls.length c1,.slice a2 x.net.ts.length c2,.slice a3 x.heard.length c3,.slice a4 ps.length c4,.slice a5 es.length c5] 44):=⟨_,rfl⟩;rw [<-hw0] at HMS HH HF0 G0 HBLK |-;clear hw0;refine HMS.out.mono ?_
 rintro e w1 ⟨rfl,o1,f1⟩;have hzb:w.heap.size<w0.heap.size:=Zab G0.out;have g1:=(f1.block w.heap.size hzb (fun hk=>by have:=HBLK.out _ hk;have:=HO3.out;omega)).trans G0.out
 have s7:=Zaa g1 7;simp at s7
 have F1:Frame lo hi w0 w1:=(f1.frame (fun k hk=>by have h1:=HBLK.out k hk;have h2:=HO3.out;exact⟨h1.1,by omega⟩))
 have OE:=Zal HH.out.ears (fun k e=>f1.block k (HH.out.ears.lt k e).2 (fun hk=>by have:=HBLK.out k hk;have:=(HH.out.ears.lt k e).1;omega))
 have ET:=hide HH.out.etop;have HME:=hide (Zi1 _ _ _ _ k0 w1 OE hE hbd.1 (by omega))
 have HOE:=hide OE;have HF1:=hide (HF0.out.trans F1);have hk9:0<=k0+4*(es.length:Int):=by omega
 clear o1 f1 HMS HH HF0 G0 HBLK g1 F1 OE
 go_wp2_with fail
 refine HME.out.mono ?_
 rintro e w2 ⟨rfl,g2⟩;have F2:=HF1.out.trans (Frame.grown g2 (fun k e=>⟨by have:=(HOE.out.lt k e).1;have:=HO0.out;omega,ET.out k e⟩))
 clear g2 HME HOE HF1 s7
 go_wp2
 go_ret
 exact⟨_,rfl,hk9,F2⟩
theorem ZgL (v:Value)(ps:List QP)(c:Int)(w:World)(h:ZdB w v (mkQL c ps) w.heap.size)(hn:totQ ps<=1048576)(hc:0<=c)(hc2:c<=10000000):
  Calls Tryz.prog 15 #[v,.int .i64 c] w fun e w'=>e=.returned (.int .i64 (mkQE c ps))/\w=w':=by
 obtain⟨a,cap,rfl⟩:=h.shape;rw [ZcE] at *;have H1:=hide h;have hnl:=Zie ps;clear h
 go_enter Tryz.func15,Tryz.ntmps15
 go_wp2
 go_loop [5,1] (fun i r=>∃ k:Nat,k<=ps.length/\i=.int .i64 k/\r=.int .i64 (mkQE c (ps.take k))) (fun i _=>ps.length-(intOf i).toNat)
 case atStart=>exact ⟨0,by omega,rfl,rfl⟩
 case round=>
  obtain⟨k,hk,rfl,rfl⟩:=hrel;by_cases hlt:k<ps.length
  ·obtain ⟨p,hp⟩:∃ p,ps[k]? = some p:=⟨ps[k],List.getElem?_eq_getElem hlt⟩
   have hki:(0:Int)<=(k:Int):=by omega
   have hkj:(k:Int)<(ps.length:Int):=by omega
   have ht1:=ZgG ps k;have ht2:=Zh0 c (ps.take k);have hpl:=Zif (List.mem_of_getElem? hp);have hnext:=Zi9 c hp;have hat:=ZpI c hp;obtain⟨z,hz⟩:∃ z,z=mkQE c (ps.take k):=⟨_,rfl⟩;rw [<-hz] at ht2 hnext hat |-;have hz0:0<=z:=by omega
   have hz2:z<=100000000:=by omega
   obtain⟨b,off,cap',hve,hbb,s0,s1,s2,s3,s4,s5,hnr⟩:=H1.out.cells k (mkQ z p) hat;rw [ZcE] at hve;cases hve
   unfold mkQ at s0 s1 s2 s3 s4 s5 hnr;simp only [] at s0 s1 s2 s3 s4 s5 hnr
   obtain⟨na,nc,hpn⟩:=hnr.shape;rw [Za9] at hpn;rw [hpn] at s5 hnr;have HH:=hide (Zng _ p.1.hops.length (z+1+1+1+1+1) w hnr (by omega) (by omega) (by omega))
   have HNEXT:=hide hnext;have HZ:=hide hz;have hm0:¬z+1+1+1+1+1+(p.1.hops.length:Int)<0:=by omega
   clear hp hnext hat hz hnr hpn ht1 ht2
   go_wp2_with fail
   refine HH.out.mono ?_
   rintro e w1 ⟨rfl,rfl⟩
   go_wp2
   go_round
   case rel=>exact ⟨k+1,by omega,by go_num,by rw [HNEXT.out];rfl⟩
   case measure=>simp [intOf];omega
  ·have hkn:k=ps.length:=by omega
   have KN:=hide hkn;clear hkn
   go_wp2
   go_ret
   exact⟨Zcn (by rw [KN.out,List.take_length]),rfl⟩
end Go.Proofs.YtnndlmodjkplnaaGreatDoor
