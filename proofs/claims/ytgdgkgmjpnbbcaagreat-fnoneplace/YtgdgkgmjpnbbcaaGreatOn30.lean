/-
  HeapU HeapP
-/
import Derived.Test.YtgdgkgmjpnbbcaaGreatOn29
namespace Go.Proofs.YtgdgkgmjpnbbcaaGreat
open Go.RowKit
set_option linter.unusedSimpArgs false
set_option linter.unusedVariables false
set_option maxRecDepth 100000
set_option maxHeartbeats 8000000
structure HB (W:World) (lo z:Nat) (C:Array Value) (u:Value) (n:Nat) (q:Nat->Nat) (wd:Nat->WayD) (wv:Nat->Value):Prop where
 box:W.heap[z]? = some (.cells C 107)
 c7:C[7]? = some u
 hq:HQ W lo u n q wd wv
theorem HB.cell {W:World}{lo z n:Nat}{C:Array Value}{u:Value}{q:Nat->Nat}{wd:Nat->WayD}{wv:Nat->Value}(h:HB W lo z C u n q wd wv):W.cell? ⟨z,7,none⟩=some u:=(Zaa h.box 7).trans h.c7
theorem HB.below {W W':World}{lo z n:Nat}{C:Array Value}{u:Value}{q:Nat->Nat}{wd:Nat->WayD}{wv:Nat->Value}(h:HB W lo z C u n q wd wv)(hb:Below W.heap.size W W'):HB W' lo z C u n q wd wv:=
 ⟨(hb.block _ (Zab h.box)).trans h.box,h.c7,h.hq.below hb⟩
theorem HB.shuf {W W':World}{lo z n:Nat}{C:Array Value}{u:Value}{q q':Nat->Nat}{wd:Nat->WayD}{wv:Nat->Value}(h:HB W lo z C u n q wd wv)(hg:W.grownBy W' u.ownBlock)(ho:W'.ownsRow lo 102 1 u n (ptrs q' n))(hs:Shuf q q' n):HB W' lo z C u n q' wd wv:=by
 refine⟨(hg.block z (Zab h.box) (Zan h.hq.row h.box (by decide))).trans h.box,h.c7,ho,fun i hi=>?_,fun i hi=>?_⟩
 ·obtain ⟨j,hj,e⟩:=hs.into i hi
  rw [e];have hw:=h.hq.way j hj;exact (hg.block _ (Zab hw) (Zan h.hq.row hw (by decide))).trans hw
 ·obtain ⟨j,hj,e⟩:=hs.into i hi
  rw [e];exact h.hq.sl j hj
theorem Za4 {W W':World}{r:Option Nat}(hb:Below W.heap.size W W'):W.grownBy W' r:=⟨hb.os,hb.tape,hb.output,hb.size,fun k hk _=>hb.block k hk⟩
theorem up_any (W:World)(lo z n:Nat)(C:Array Value)(u:Value)(q:Nat->Nat)(wd:Nat->WayD)(wv:Nat->Value)(j:Nat)(h:HB W lo z C u n q wd wv)(hj:j<n)(hn:n<=1048576)(hu:UpInv (fun k=>(wd k).cost) q n j):
  Calls Tryz.prog 113 #[.iface 138 (.pointer (some ⟨z,7,none⟩)),.int .i64 (j:Int)] W fun e W'=>∃ q',e=.returned (.tuple #[])/\ZcN (fun k=>(wd k).cost) q' n/\Shuf q q' n/\HB W' lo z C u n q' wd wv/\W.grownBy W' u.ownBlock:=by
 have HU:=hide hu;have HH:=hide h;clear hu h
 go_enter Tryz.func113,Tryz.ntmps113
 go_wp2
 go_loopw [1] (fun i wr=>∃ (j:Nat) (q':Nat->Nat),j<n/\i=.int .i64 (j:Int)/\Hid (UpInv (fun k=>(wd k).cost) q' n j)/\Hid (Shuf q q' n)/\Hid (HB wr lo z C u n q' wd wv)/\Hid (W.grownBy wr u.ownBlock)) (fun i _=>(intOf i).toNat)
 case atStart=>exact ⟨j,q,hj,rfl,HU,hide (Shuf.refl _ _),HH,hide (ZcL _ _)⟩
 case round=>
  rename World=>wa
  clear HU HH hj;obtain⟨j,q',hj,rfl,HU,HS,HH,HG⟩:=hrel;have cz:=HH.out.cell;by_cases hj0:j=0
  ·subst hj0
   have HI:=hide (Znd HU.out (.inl rfl))
   go_wp2
   go_returns
   exact⟨q',rfl,HI.out,HS.out,HH.out,HG.out⟩
  ·have hw1:IntKind.i64.wrap ((j:Int)-1)=((j-1:Nat):Int):=by rw [ZaO _ (by omega) (by omega)];omega
   have hw2:((j-1:Nat):Int).tdiv 2=((par j:Nat):Int):=by rw [Int.tdiv_eq_ediv_of_nonneg (by omega)];unfold par;omega
   have hpl:par j<j:=Zdr (by omega)
   obtain⟨p,hp⟩:∃ p,p=par j:=⟨_,rfl⟩;rw [<-hp] at hw2 hpl;have HP:=hide hp;clear hp;have hne:((p:Int)==(j:Int))=false:=by
    have h1:¬(p:Int)=(j:Int):=by omega
    simpa using h1
   have hne2:¬(p:Int)=(j:Int):=by omega
   have HL:=hide (Ze2 wa lo n u q' wd wv j p HH.out.hq hj (by omega))
   have mL:=ZdV cz;by_cases hlt:(wd (q' j)).cost<(wd (q' p)).cost
   ·go_wp2_with fail
    refine HL.out.mono ?_
    rintro e w2 ⟨rfl,b2⟩;rw [decide_eq_true hlt];have H2:=HH.out.below b2;have cz2:=H2.cell;have mS:=ZdW cz2;have HSW:=hide (Zfk w2 lo n u q' p j H2.hq.row (by omega) hj)
    have HB2:=hide H2;have HUP:=hide (Zpp HU.out (by omega) hj (by rw [<-HP.out];exact hlt))
    rw [<-HP.out] at HUP;have HG2:=hide (Zai HG.out (Za4 (r:=u.ownBlock) b2));clear b2 H2 mL
    go_wp2_with fail
    refine HSW.out.mono ?_
    rintro e w3 ⟨rfl,ho3,hg3⟩;have HB3:=hide (HB2.out.shuf hg3 ho3 (Shuf.swap q' (by omega) hj))
    have HS3:=hide (HS.out.trans (Shuf.swap q' (i:=p) (j:=j) (by omega) hj))
    have HG3:=hide (Zai HG2.out hg3);clear ho3 hg3 mS
    go_wp2
    go_roundw
    case rel=>exact ⟨p,_,by omega,rfl,HUP,HS3,HB3,HG3⟩
    case measure=>simp [intOf];omega
   ·go_wp2_with fail
    refine HL.out.mono ?_
    rintro e w2 ⟨rfl,b2⟩;rw [decide_eq_false (by omega)]
    have HI:=hide (Znd HU.out (.inr (by rw [<-HP.out];show ¬(wd (q' j)).cost<(wd (q' p)).cost;omega)))
    have HB2:=hide (HH.out.below b2);have HG2:=hide (Zai HG.out (Za4 (r:=u.ownBlock) b2));clear b2 mL
    go_wp2
    go_returns
    exact⟨q',rfl,HI.out,HS.out,HB2.out,HG2.out⟩
theorem ZjP {c:Nat->Int}{q:Nat->Nat}{n i j:Nat}(h1:2*i+1<n->c (q j)<=c (q (2*i+1)))(h2:2*i+2<n->c (q j)<=c (q (2*i+2))):∀ k,0<k->k<n->par k=i->c (q j)<=c (q k):=by
 intro k h0 hk hp
 rcases ZkG h0 hp with rfl | rfl
 ·exact h1 hk
 ·exact h2 hk
theorem Znx (W:World)(lo z n m:Nat)(C:Array Value)(u:Value)(q:Nat->Nat)(wd:Nat->WayD)(wv:Nat->Value)(h:HB W lo z C u m q wd wv)(hnm:n<=m)(hn:m<=1048576)(hu:DownInv (fun k=>(wd k).cost) q n 0):
  Calls Tryz.prog 114 #[.iface 138 (.pointer (some ⟨z,7,none⟩)),.int .i64 0,.int .i64 (n:Int)] W fun e W'=>∃ (r:Value) (q':Nat->Nat),e=.returned r/\ZcN (fun k=>(wd k).cost) q' n/\Shuf q q' n/\HB W' lo z C u m q' wd wv/\W.grownBy W' u.ownBlock:=by
 have HU:=hide hu;have HH:=hide h;clear hu h
 go_enter Tryz.func114,Tryz.ntmps114
 go_wp2
 go_loopw [7] (fun s wr=>∃ (i:Nat) (q':Nat->Nat),i<=n/\s=.int .i64 (i:Int)/\Hid (DownInv (fun k=>(wd k).cost) q' n i)/\Hid (Shuf q q' n)/\Hid (HB wr lo z C u m q' wd wv)/\Hid (W.grownBy wr u.ownBlock)) (fun s _=>n-(intOf s).toNat)
 case atStart=>exact ⟨0,q,by omega,rfl,HU,hide (Shuf.refl _ _),HH,hide (ZcL _ _)⟩
 case round=>
  rename World=>wa
  clear HU HH;obtain⟨i,q',hi,rfl,HU,HS,HH,HG⟩:=hrel;have cz:=HH.out.cell;have hw1:IntKind.i64.wrap (2*(i:Int))=((2*i:Nat):Int):=by rw [ZaO _ (by omega) (by omega)];omega
  have hw2:IntKind.i64.wrap (((2*i:Nat):Int)+1)=((2*i+1:Nat):Int):=by rw [ZaO _ (by omega) (by omega)];omega
  have hw3:IntKind.i64.wrap (((2*i+1:Nat):Int)+1)=((2*i+2:Nat):Int):=by rw [ZaO _ (by omega) (by omega)];omega
  obtain⟨j1,hj1⟩:∃ j,j=2*i+1:=⟨_,rfl⟩;obtain⟨j2,hj2⟩:∃ j,j=2*i+2:=⟨_,rfl⟩;obtain⟨i2,hi2⟩:∃ j,j=2*i:=⟨_,rfl⟩;rw [<-hj1] at hw2 hw3;rw [<-hi2] at hw1 hw2;rw [<-hj2] at hw3;have HJ1:=hide hj1;have HJ2:=hide hj2;have hij:i<j1:=by omega
  have hj12:j2=j1+1:=by omega
  have HJ12:=hide hj12;have hj1n:¬(j1:Int)<0:=by omega
  clear hj1 hj2 hi2;by_cases hlt:j1<n
  ·clear hj12
   have hij2:i<j2:=by have:=HJ12.out;omega
   have hge:¬(n:Int)<=(j1:Int):=by omega
   have hged:decide ((j1:Int)>=(n:Int))=false:=by simp;omega
   have hged2:decide ((n:Int)<=(j1:Int))=false:=by simp;omega
   by_cases hlt2:j2<n
   ·have hl2:(j2:Int)<(n:Int):=by omega
    have mL:=ZdV cz;have HL:=hide (Ze2 wa lo m u q' wd wv j2 j1 HH.out.hq (by omega) (by omega))
    by_cases hc21:(wd (q' j2)).cost<(wd (q' j1)).cost
    ·go_wp2_with fail
     refine HL.out.mono ?_
     rintro e w2 ⟨rfl,b2⟩;rw [decide_eq_true hc21];have HB2:=hide (HH.out.below b2);have HG2:=hide (Zai HG.out (Za4 (r:=u.ownBlock) b2));clear b2 mL cz HL;have hlJ:j2<n:=by omega
     have cz5:=HB2.out.cell;have mL5:=ZdV cz5;have HL5:=hide (Ze2 w2 lo m u q' wd wv j2 i HB2.out.hq (by omega) (by omega))
     have KM:=hide (ZjP (c:=fun k=>(wd k).cost) (q:=q') (n:=n) (i:=i) (j:=j2) (fun _=>by rw [<-HJ1.out];exact Int.le_of_lt hc21) (fun _=>by rw [<-HJ2.out];exact Int.le_refl _))
     by_cases hlt5:(wd (q' j2)).cost<(wd (q' i)).cost
     ·go_wp2_with fail
      refine HL5.out.mono ?_
      rintro e w6 ⟨rfl,b6⟩;rw [decide_eq_true hlt5];have H6:=HB2.out.below b6;have cz6:=H6.cell;have mS:=ZdW cz6;have HSW:=hide (Zfk w6 lo m u q' i j2 H6.hq.row (by omega) (by omega))
      have HB6:=hide H6;have HDN:=hide (Zgo HU.out (j:=j2) (by omega) hlJ (by unfold par;have:=HJ1.out;have:=HJ2.out;omega) hlt5 KM.out)
      have HG6:=hide (Zai HG2.out (Za4 (r:=u.ownBlock) b6));clear b6 H6 mL5 cz5
      go_wp2_with fail
      refine HSW.out.mono ?_
      rintro e w7 ⟨rfl,ho7,hg7⟩;have HB7:=hide (HB6.out.shuf hg7 ho7 (Shuf.swap q' (by omega) (by omega)))
      have HS7:=hide (HS.out.trans (Shuf.swap q' (i:=i) (j:=j2) (by omega) hlJ))
      have HG7:=hide (Zai HG6.out hg7);clear ho7 hg7 mS
      go_wp2
      go_roundw
      case rel=>exact ⟨j2,_,by omega,rfl,HDN,HS7,HB7,HG7⟩
      case measure=>simp [intOf];omega
     ·go_wp2_with fail
      refine HL5.out.mono ?_
      rintro e w6 ⟨rfl,b6⟩;rw [decide_eq_false (by omega)]
      have hle5:(wd (q' i)).cost<=(wd (q' j2)).cost:=by omega
      have HI:=hide (ZeW HU.out (fun k h0 hk hp=>Int.le_trans hle5 (KM.out k h0 hk hp)))
      have HB6:=hide (HB2.out.below b6);have HG6:=hide (Zai HG2.out (Za4 (r:=u.ownBlock) b6));clear b6 mL5 cz5
      go_wp2
      go_returns
      first
       | exact ⟨_,q',rfl,HI.out,HS.out,HB6.out,HG6.out⟩
       | exact ⟨_,rfl,q',HI.out,HS.out,HB6.out,HG6.out⟩
    ·go_wp2_with fail
     refine HL.out.mono ?_
     rintro e w2 ⟨rfl,b2⟩;rw [decide_eq_false (by omega)]
     have hc21':(wd (q' j1)).cost<=(wd (q' j2)).cost:=by omega
     have HB2:=hide (HH.out.below b2);have HG2:=hide (Zai HG.out (Za4 (r:=u.ownBlock) b2));clear b2 mL cz HL;have hlJ:j1<n:=by omega
     have cz5:=HB2.out.cell;have mL5:=ZdV cz5;have HL5:=hide (Ze2 w2 lo m u q' wd wv j1 i HB2.out.hq (by omega) (by omega))
     have KM:=hide (ZjP (c:=fun k=>(wd k).cost) (q:=q') (n:=n) (i:=i) (j:=j1) (fun _=>by rw [<-HJ1.out];exact Int.le_refl _) (fun _=>by rw [<-HJ2.out];exact hc21'))
     by_cases hlt5:(wd (q' j1)).cost<(wd (q' i)).cost
     ·go_wp2_with fail
      refine HL5.out.mono ?_
      rintro e w6 ⟨rfl,b6⟩;rw [decide_eq_true hlt5];have H6:=HB2.out.below b6;have cz6:=H6.cell;have mS:=ZdW cz6;have HSW:=hide (Zfk w6 lo m u q' i j1 H6.hq.row (by omega) (by omega))
      have HB6:=hide H6;have HDN:=hide (Zgo HU.out (j:=j1) (by omega) hlJ (by unfold par;have:=HJ1.out;have:=HJ2.out;omega) hlt5 KM.out)
      have HG6:=hide (Zai HG2.out (Za4 (r:=u.ownBlock) b6));clear b6 H6 mL5 cz5
      go_wp2_with fail
      refine HSW.out.mono ?_
      rintro e w7 ⟨rfl,ho7,hg7⟩;have HB7:=hide (HB6.out.shuf hg7 ho7 (Shuf.swap q' (by omega) (by omega)))
      have HS7:=hide (HS.out.trans (Shuf.swap q' (i:=i) (j:=j1) (by omega) hlJ))
      have HG7:=hide (Zai HG6.out hg7);clear ho7 hg7 mS
      go_wp2
      go_roundw
      case rel=>exact ⟨j1,_,by omega,rfl,HDN,HS7,HB7,HG7⟩
      case measure=>simp [intOf];omega
     ·go_wp2_with fail
      refine HL5.out.mono ?_
      rintro e w6 ⟨rfl,b6⟩;rw [decide_eq_false (by omega)]
      have hle5:(wd (q' i)).cost<=(wd (q' j1)).cost:=by omega
      have HI:=hide (ZeW HU.out (fun k h0 hk hp=>Int.le_trans hle5 (KM.out k h0 hk hp)))
      have HB6:=hide (HB2.out.below b6);have HG6:=hide (Zai HG2.out (Za4 (r:=u.ownBlock) b6));clear b6 mL5 cz5
      go_wp2
      go_returns
      first
       | exact ⟨_,q',rfl,HI.out,HS.out,HB6.out,HG6.out⟩
       | exact ⟨_,rfl,q',HI.out,HS.out,HB6.out,HG6.out⟩
   ·have hl2:¬(j2:Int)<(n:Int):=by omega
    have hlJ:j1<n:=by omega
    have cz5:=HH.out.cell;have mL5:=ZdV cz5;have HL5:=hide (Ze2 wa lo m u q' wd wv j1 i HH.out.hq (by omega) (by omega))
    have KM:=hide (ZjP (c:=fun k=>(wd k).cost) (q:=q') (n:=n) (i:=i) (j:=j1) (fun _=>by rw [<-HJ1.out];exact Int.le_refl _) (fun h=>by have:=HJ2.out;omega))
    by_cases hlt5:(wd (q' j1)).cost<(wd (q' i)).cost
    ·go_wp2_with fail
     refine HL5.out.mono ?_
     rintro e w6 ⟨rfl,b6⟩;rw [decide_eq_true hlt5];have H6:=HH.out.below b6;have cz6:=H6.cell;have mS:=ZdW cz6;have HSW:=hide (Zfk w6 lo m u q' i j1 H6.hq.row (by omega) (by omega))
     have HB6:=hide H6;have HDN:=hide (Zgo HU.out (j:=j1) (by omega) hlJ (by unfold par;have:=HJ1.out;have:=HJ2.out;omega) hlt5 KM.out)
     have HG6:=hide (Zai HG.out (Za4 (r:=u.ownBlock) b6));clear b6 H6 mL5 cz5
     go_wp2_with fail
     refine HSW.out.mono ?_
     rintro e w7 ⟨rfl,ho7,hg7⟩;have HB7:=hide (HB6.out.shuf hg7 ho7 (Shuf.swap q' (by omega) (by omega)))
     have HS7:=hide (HS.out.trans (Shuf.swap q' (i:=i) (j:=j1) (by omega) hlJ))
     have HG7:=hide (Zai HG6.out hg7);clear ho7 hg7 mS
     go_wp2
     go_roundw
     case rel=>exact ⟨j1,_,by omega,rfl,HDN,HS7,HB7,HG7⟩
     case measure=>simp [intOf];omega
    ·go_wp2_with fail
     refine HL5.out.mono ?_
     rintro e w6 ⟨rfl,b6⟩;rw [decide_eq_false (by omega)]
     have hle5:(wd (q' i)).cost<=(wd (q' j1)).cost:=by omega
     have HI:=hide (ZeW HU.out (fun k h0 hk hp=>Int.le_trans hle5 (KM.out k h0 hk hp)))
     have HB6:=hide (HH.out.below b6);have HG6:=hide (Zai HG.out (Za4 (r:=u.ownBlock) b6));clear b6 mL5 cz5
     go_wp2
     go_returns
     first
      | exact ⟨_,q',rfl,HI.out,HS.out,HB6.out,HG6.out⟩
      | exact ⟨_,rfl,q',HI.out,HS.out,HB6.out,HG6.out⟩
  ·clear hj12
   have hge:(n:Int)<=(j1:Int):=by omega
   have HI:=hide (ZeW HU.out (fun k h0 hk hp=>by rcases ZkG h0 hp with e | e <;> (have:=HJ1.out;omega)))
   go_wp2
   go_returns
   first
    | exact ⟨_,q',rfl,HI.out,HS.out,HH.out,HG.out⟩
    | exact ⟨_,rfl,q',HI.out,HS.out,HH.out,HG.out⟩
    | exact ⟨⟨_,rfl⟩,q',HI.out,HS.out,HH.out,HG.out⟩
theorem Tryz.infoPtr:(Tryz.prog.info? 102).map (fun i=>(i.zero,i.size,i.bytes))=some (some (.pointer none),1,8):=by kernel_rfl
structure FK (W W':World) (lo z:Nat):Prop where
 os:W'.os=W.os
 tape:W'.tape=W.tape
 output:W'.output=W.output
 size:W.heap.size<=W'.heap.size
 low:∀ k,k<lo->W'.heap[k]? = W.heap[k]?
 typed:∀ (k:Nat) (cs:Array Value) (t:TypeId) (fr:Nat × Nat),W.heap[k]? = some (.cells cs t fr)->t≠102->k≠z->W'.heap[k]? = W.heap[k]?
theorem FK.trans {W W1 W2:World}{lo z:Nat}(a:FK W W1 lo z)(b:FK W1 W2 lo z):FK W W2 lo z:=
 ⟨b.os.trans a.os,b.tape.trans a.tape,b.output.trans a.output,Nat.le_trans a.size b.size,fun k hk=>(b.low k hk).trans (a.low k hk),fun k cs t fr h ht hz=>(b.typed k cs t fr ((a.typed k cs t fr h ht hz).trans h) ht hz).trans (a.typed k cs t fr h ht hz)⟩
theorem FK.of_below {W W':World}{lo z:Nat}(h:Below W.heap.size W W')(hlo:lo<=W.heap.size):FK W W' lo z:=⟨h.os,h.tape,h.output,h.size,fun k hk=>h.block k (by omega),fun k _ _ _ hk _ _=>h.block k (Zab hk)⟩
theorem FK.of_grown {W W':World}{lo z n:Nat}{u:Value}{xs:List Value}(hr:W.ownsRow lo 102 1 u n xs)(h:W.grownBy W' u.ownBlock)(hlo:lo<=W.heap.size):FK W W' lo z:=
 ⟨h.os,h.tape,h.output,h.size,fun k hk=>h.block k (by omega) (fun e=>by have:=(hr.lt k e.symm).1;omega),fun k _ _ _ hk ht _=>h.block k (Zab hk) (Zan hr hk (fun e=>ht e.symm))⟩
theorem FK.of_set {W:World}{lo z j:Nat}(u:Value)(hz:lo<=z):FK W (W.setCell ⟨z,j,none⟩ u) lo z:=
 ⟨rfl,rfl,rfl,by simp,fun k hk=>heap_setCell_other W ⟨z,j,none⟩ k _ (by show k≠z;omega),fun k _ _ _ _ _ hk=>heap_setCell_other W ⟨z,j,none⟩ k _ hk⟩
theorem FK.below {W W':World}{lo z:Nat}(h:FK W W' lo z):Below lo W W':=⟨h.os,h.tape,h.output,h.size,h.low⟩
theorem ZmM (q:Nat->Nat)(n k:Nat):ptrs (fun x=>if x=n then k else q x) (n+1)=ptrs q n++[ptrV k]:=by
 unfold ptrs;rw [List.range_succ,List.map_append]
 congr 1
 ·apply List.map_congr_left
  intro i hi;have hi2:=List.mem_range.1 hi
  show ptrV (if i=n then k else q i)=ptrV (q i)
  rw [if_neg (by omega)]
 ·simp
theorem Zoa {W:World}{lo n g cap k:Nat}{e:TypeId}{xs:List Value}(h:W.ownsRow lo e 1 (.slice (some ⟨g,0,none⟩) n cap) n xs)(hk:k<=n):W.ownsRow lo e 1 (.slice (some ⟨g,0,none⟩) k cap) k (xs.take k):=by
 rcases h.2 with ⟨e1,_⟩ | ⟨g',cap',cur,hv,hg,hh,hnc,hcm,hcs,htk⟩
 ·cases e1
 ·cases hv
  have hl:=h.1;refine⟨by rw [List.length_take];omega,.inr ⟨g,cap,cur,rfl,hg,hh,by omega,hcm,hcs,?_⟩⟩
  rw [<-htk,List.take_take]
  congr 1
  omega
theorem ZmN (q:Nat->Nat){n k:Nat}(h:k<=n):(ptrs q n).take k=ptrs q k:=by
 unfold ptrs;rw [<-List.map_take,List.take_range,Nat.min_eq_left h]
theorem Zfo {w:World}{o:Oper}{a:Act}{K:Act->World->Prop}{Q:Exit->Act->World->Prop}{lo:Nat}{u:Value}(s x:Operand) (ho:o.op=.call { callee:=.builtin .append,args:=#[s,x],argTypes:=#[105,105] }) (q:Nat->Nat) (k n:Nat) (hs:a.eval s=u) (hown:w.ownsRow lo 102 1 u n (ptrs q n))
  {g:Nat} (hx:a.eval x=.slice (some ⟨g,0,none⟩) 1 1) (hnew:w.cell? ⟨g,0,none⟩=some (ptrV k)) (hn:n<=1000000) (hlo:lo<=w.heap.size)
  (h:∀ v' w',w'.ownsRow lo 102 1 v' (n+1) (ptrs (fun x=>if x=n then k else q x) (n+1))->w.grownBy w' u.ownBlock->K (a.put o.dst v') w'):o.wp Tryz.prog a w K Q:=by
 obtain⟨i0,hi,hz0,hz1,hz2⟩:=info_parts Tryz.infoPtr;refine wp_append_own w s x 105 ho lo 102 i0 (.pointer none) 1 8 Zgd hi hz0 hz1 hz2 rfl (by omega) u n (ptrs q n) hs hown ⟨g,0,none⟩ 1 1 [ptrV k] hx rfl ?_ ?_ (by unfold maxLen;omega) (by omega) hlo ?_
 ·intro j u hj
  match j,hj with
  | 0,hj=>simp at hj;subst hj;exact hnew
 ·intro u hu
  simp at hu
  subst hu
  rfl
 ·intro v' w' h1 h2 _
  rw [<-ZmM] at h1;exact h v' w' h1 h2
theorem ZkT (v:Value)(w:World):(Instr.typeAssert (.iface 102 v) 20 102 false).run Tryz.prog w=.ok v w:=by kernel_rfl
theorem ZmO (W:World)(lo z n:Nat)(C:Array Value)(u:Value)(q:Nat->Nat)(wd:Nat->WayD)(wv:Nat->Value)(k:Nat)(h:HB W lo z C u n q wd wv)(hlo:lo<=W.heap.size)(hn:n<=1000)(hC:C.size=8)(hz:lo<=z)
  (hk:W.heap[k]? = some (.cells (wayC (wd k) (wv k)) 48)) (hks:∃ a l c,wv k=.slice a l c):
  Calls Tryz.prog 181 #[.pointer (some ⟨z,7,none⟩),.iface 102 (.pointer (some ⟨k,0,none⟩))] W fun e W'=>∃ u',e=.returned (.tuple #[])/\HB W' lo z (C.setIfInBounds 7 u') u' (n+1) (fun x=>if x=n then k else q x) wd wv/\FK W W' lo z:=by
 have cz:=h.cell;have fz:=Zae h.box;obtain⟨a1,c1,rfl⟩:=Zac h.hq.row;have FIN:∀ (W3:World) (u':Value) (W1:World),(∀ j,j<W.heap.size->W1.heap[j]? = W.heap[j]?)->W.heap.size<=W1.heap.size->W1.os=W.os->W1.tape=W.tape->W1.output=W.output->W3.ownsRow lo 102 1 u' (n+1) (ptrs (fun x=>if x=n then k else q x) (n+1))->W1.grownBy W3 (Value.slice a1 n c1).ownBlock ->
   W3.cell? ⟨z,7,none⟩=some (.slice a1 n c1)/\(∀ j,W3.frozen? ⟨z,j,none⟩=false)/\HB (W3.setCell ⟨z,7,none⟩ u') lo z (C.setIfInBounds 7 u') u' (n+1) (fun x=>if x=n then k else q x) wd wv/\FK W (W3.setCell ⟨z,7,none⟩ u') lo z:=by
  intro W3 u' W1 hW1 hs1 e1 e2 e3 ho3 hg3;have keep:∀ j,j<W.heap.size->some j≠(Value.slice a1 n c1).ownBlock->W3.heap[j]? = W.heap[j]? := fun j hj hne=>(hg3.block j (by omega) hne).trans (hW1 j hj)
  have hb3:W3.heap[z]? = some (.cells C 107):=(keep z (Zab h.box) (Zan h.hq.row h.box (by decide))).trans h.box
  have kway:∀ (j:Nat) (x:Array Value),W.heap[j]? = some (.cells x 48)->(W3.setCell ⟨z,7,none⟩ u').heap[j]? = some (.cells x 48):=by
   intro j x hj;rw [heap_setCell_other W3 ⟨z,7,none⟩ j _ (by
    intro e;have e':j=z:=e;rw [e',h.box] at hj;simp at hj)]
   exact (keep j (Zab hj) (Zan h.hq.row hj (by decide))).trans hj
  refine⟨(Zaa hb3 7).trans h.c7,Zae hb3,⟨heap_setCell_same _ _ 7 _ _ _ hb3,by simp [hC],?_,fun i hi=>?_,fun i hi=>?_⟩,?_⟩
  ·exact Zao ho3 (fun j hj=>heap_setCell_other W3 ⟨z,7,none⟩ j _ (fun e=>by
    have e':j=z:=e;exact Zan ho3 hb3 (by decide) (by rw [hj,e'])))
  ·show (W3.setCell ⟨z,7,none⟩ u').heap[if i=n then k else q i]? = some (.cells (wayC (wd (if i=n then k else q i)) (wv (if i=n then k else q i))) 48)
   by_cases e:i=n
   ·rw [if_pos e];exact kway k _ hk
   ·rw [if_neg e];exact kway _ _ (h.hq.way i (by omega))
  ·show ∃ a l c,wv (if i=n then k else q i)=.slice a l c
   by_cases e:i=n
   ·rw [if_pos e];exact hks
   ·rw [if_neg e];exact h.hq.sl i (by omega)
  ·refine FK.trans ?_ (FK.of_set u' hz)
   exact⟨hg3.os.trans e1,hg3.tape.trans e2,hg3.output.trans e3,by have:=hg3.size;omega,fun j hj=>keep j (by omega) (fun e=>by have:=(h.hq.row.lt j e.symm).1;omega),fun j _ _ _ hj ht _=>keep j (Zab hj) (Zan h.hq.row hj (fun e=>ht e.symm))⟩
 have HFIN:=hide FIN;have HH:=hide h;have lz:=Zab h.box;clear FIN h fz hk
 go_enter Tryz.func181,Tryz.ntmps181
 go_wp2
 refine Zaj (S:=fun _=>True) (by kernel_rfl) 10 rfl trivial ?_
 intro ops hops _;have czd:W.drew.cell? ⟨z,7,none⟩=some (.slice a1 n c1):=cz
 show wpAnyH Tryz.prog .any ops _ (fun _=>True) 10 #[false,false,false,false,false,false,false,false,false,false] _ W.drew
 iterate 3
  refine Zat 10 ?_ ?_ ?_ (by rw [hops.out];kernel_rfl) ?_ ?_ trivial ?_
  rotate_left 2
  ·rw [hops.out];simp only [getS,Nat.reduceSub,Nat.reduceAdd];rfl
  ·intro W _;have hAs:=fun v=>ZkT v W;go_simp <;> with_reducible rfl
  ·exact fun _ _ _=>id
  try simp only [putS]
 refine Za0 4 ?_ ?_ ?_ (by rw [hops.out];kernel_rfl) ?_ ?_ trivial ?_
 rotate_left 2
 ·rw [hops.out];simp only [getS];rfl
 ·intro W _;have hAs:=fun v=>ZkT v W;go_simp <;> with_reducible rfl
 ·exact fun _ _ _=>id
 try simp only [putS]
 refine Za0 5 ?_ ?_ ?_ (by rw [hops.out];kernel_rfl) ?_ ?_ trivial ?_
 rotate_left 2
 ·rw [hops.out];simp only [getS];rfl
 ·intro W _;have hAs:=fun v=>ZkT v W;go_simp <;> with_reducible rfl
 ·exact fun _ _ _=>id
 try simp only [putS]
 refine wpAnyH_ready (rs:=[3,6]) (by rw [hops.out];kernel_rfl) (by simp) ?_
 refine AllReadyH.cons (o:=?_) ?_ (fun K hK=>?_) ?_
 rotate_left 1
 ·rw [hops.out];simp only [getS];rfl
 ·rw [if_pos (by rfl)]
  go_simp
  refine hK.out _ _ trivial (fun _=>?_)
  clear hK K
  try simp only [putS]
  refine wpAnyH_ready (rs:=[6]) (by rw [hops.out];kernel_rfl) (by simp) ?_
  refine AllReadyH.cons (o:=?_) ?_ (fun K hK=>?_) ?_
  rotate_left 1
  ·rw [hops.out];simp only [getS];rfl
  ·rw [if_pos (by rfl)]
   go_simp
   refine hK.out _ _ trivial (fun _=>?_)
   clear hK K
   try simp only [putS]
   have ho2:=(HH.out.hq.row.drew).alloc (.cells #[.pointer (some ⟨k,0,none⟩)] 102);have nw2:=Zaa (heap_alloc_new W.drew (.cells #[.pointer (some ⟨k,0,none⟩)] 102)) 0;have hs2:lo<=(W.drew.alloc (.cells #[.pointer (some ⟨k,0,none⟩)] 102)).heap.size:=by simp;omega
   refine Zak 7 (oi:=?_) ?_ (by rw [hops.out];kernel_rfl) ?_ ?_
   rotate_left 1
   ·rw [hops.out];simp only [getS];rfl
   ·rw [hops.out];kernel_rfl
   intro K hK;refine Zfo _ _ rfl q k n rfl ho2 rfl nw2 (by omega) hs2 ?_
   intro v' W3 ho3 hg3;obtain⟨na,nc,rfl⟩:=Zac ho3;refine hK.out _ _ trivial (fun _=>?_)
   clear hK K
   try simp only [putS]
   refine Za0 8 ?_ ?_ ?_ (by rw [hops.out];kernel_rfl) ?_ ?_ trivial ?_
   rotate_left 2
   ·rw [hops.out];simp only [getS];rfl
   ·intro W _;have hAs:=fun v=>ZkT v W;go_simp <;> with_reducible rfl
   ·exact fun _ _ _=>id
   try simp only [putS]
   obtain⟨d7,f7,r1,r2⟩:=HFIN.out W3 _ ((W.alloc (.cells #[.pointer (some ⟨k,0,none⟩)] 102)).drew) (fun j hj=>Below.heap_alloc W _ j hj) (by show W.heap.size<=(W.alloc (.cells #[.pointer (some ⟨k,0,none⟩)] 102)).heap.size;simp) rfl rfl rfl ho3 hg3
   have R1:=hide r1;have R2:=hide r2;clear r1 r2 ho3 hg3 ho2 nw2 HFIN HH;refine Zak 9 (oi:=?_) ?_ (by rw [hops.out];kernel_rfl) ?_ ?_
   rotate_left 1
   ·rw [hops.out];simp only [getS];rfl
   ·rw [hops.out];kernel_rfl
   intro K hK;have f77:=f7 7
   go_simp
   refine hK.out _ _ trivial (fun _=>?_)
   clear hK K;refine wpAnyH_done (by rw [hops.out];kernel_rfl) ?_ _
   clear hops ops
   go_wp2
   go_returns
   exact⟨_,rfl,R1.out,R2.out⟩
  exact AllReadyH.nil
 refine AllReadyH.cons (o:=?_) ?_ (fun K hK=>?_) ?_
 rotate_left 1
 ·rw [hops.out];simp only [getS];rfl
 ·rw [if_pos (by rfl)]
  go_simp
  refine hK.out _ _ trivial (fun _=>?_)
  clear hK K
  try simp only [putS]
  refine wpAnyH_ready (rs:=[3]) (by rw [hops.out];kernel_rfl) (by simp) ?_
  refine AllReadyH.cons (o:=?_) ?_ (fun K hK=>?_) ?_
  rotate_left 1
  ·rw [hops.out];simp only [getS];rfl
  ·rw [if_pos (by rfl)]
   have cz5:(W.drew.alloc (.cells #[.pointer (some ⟨k,0,none⟩)] 102)).cell? ⟨z,7,none⟩=some (.slice a1 n c1):=by
    rw [World.cell?_of_block (Below.heap_alloc _ _ _ (by simpa using lz))]
    exact czd
   go_simp
   refine hK.out _ _ trivial (fun _=>?_)
   clear hK K cz5
   try simp only [putS]
   have ho2:=(HH.out.hq.row.drew).alloc (.cells #[.pointer (some ⟨k,0,none⟩)] 102);have nw2:=Zaa (heap_alloc_new W.drew (.cells #[.pointer (some ⟨k,0,none⟩)] 102)) 0;have hs2:lo<=(W.drew.alloc (.cells #[.pointer (some ⟨k,0,none⟩)] 102)).heap.size:=by simp;omega
   refine Zak 7 (oi:=?_) ?_ (by rw [hops.out];kernel_rfl) ?_ ?_
   rotate_left 1
   ·rw [hops.out];simp only [getS];rfl
   ·rw [hops.out];kernel_rfl
   intro K hK;refine Zfo _ _ rfl q k n rfl ho2 rfl nw2 (by omega) hs2 ?_
   intro v' W3 ho3 hg3;obtain⟨na,nc,rfl⟩:=Zac ho3;refine hK.out _ _ trivial (fun _=>?_)
   clear hK K
   try simp only [putS]
   refine Za0 8 ?_ ?_ ?_ (by rw [hops.out];kernel_rfl) ?_ ?_ trivial ?_
   rotate_left 2
   ·rw [hops.out];simp only [getS];rfl
   ·intro W _;have hAs:=fun v=>ZkT v W;go_simp <;> with_reducible rfl
   ·exact fun _ _ _=>id
   try simp only [putS]
   obtain⟨d7,f7,r1,r2⟩:=HFIN.out W3 _ ((W.alloc (.cells #[.pointer (some ⟨k,0,none⟩)] 102)).drew) (fun j hj=>Below.heap_alloc W _ j hj) (by show W.heap.size<=(W.alloc (.cells #[.pointer (some ⟨k,0,none⟩)] 102)).heap.size;simp) rfl rfl rfl ho3 hg3
   have R1:=hide r1;have R2:=hide r2;clear r1 r2 ho3 hg3 ho2 nw2 HFIN HH;refine Zak 9 (oi:=?_) ?_ (by rw [hops.out];kernel_rfl) ?_ ?_
   rotate_left 1
   ·rw [hops.out];simp only [getS];rfl
   ·rw [hops.out];kernel_rfl
   intro K hK;have f77:=f7 7
   go_simp
   refine hK.out _ _ trivial (fun _=>?_)
   clear hK K;refine wpAnyH_done (by rw [hops.out];kernel_rfl) ?_ _
   clear hops ops
   go_wp2
   go_returns
   exact⟨_,rfl,R1.out,R2.out⟩
  exact AllReadyH.nil
 exact AllReadyH.nil
theorem Zoc (W:World)(lo z n:Nat)(C:Array Value)(u:Value)(q:Nat->Nat)(wd:Nat->WayD)(wv:Nat->Value)(h:HB W lo z C u (n+1) q wd wv)(hn:n<=1000)(hC:C.size=8)(hz:lo<=z):
  Calls Tryz.prog 180 #[.pointer (some ⟨z,7,none⟩)] W fun e W'=>∃ u',e=.returned (.iface 102 (ptrV (q n)))/\HB W' lo z (C.setIfInBounds 7 u') u' n q wd wv/\FK W W' lo z:=by
 obtain⟨g,cap,hu,cn,hg⟩:=h.hq.cell (i:=n) (by omega)
 have cz:=h.cell;have fz:=Zae h.box;subst hu;unfold ptrV at cn |-;have hcap:n+1<=cap:=by
  rcases h.hq.row.2 with ⟨e1,_⟩ | ⟨g',cap',cur,hv,_,hh,hnc,_⟩
  ·cases e1
  ·cases hv;exact hnc
 have R1:=hide (show HB (W.setCell ⟨z,7,none⟩ (.slice (some ⟨g,0,none⟩) n cap)) lo z (C.setIfInBounds 7 (.slice (some ⟨g,0,none⟩) n cap)) (.slice (some ⟨g,0,none⟩) n cap) n q wd wv by
  have hzg:some z≠(Value.slice (some ⟨g,0,none⟩) (n+1) cap).ownBlock:=Zan h.hq.row h.box (by decide)
  have hgz:g≠z:=fun e=>hzg (by rw [e];rfl)
  refine⟨heap_setCell_same _ _ 7 _ _ _ h.box,by simp [hC],?_,fun i hi=>?_,fun i hi=>h.hq.sl i (by omega)⟩
  ·have o1:=Zoa h.hq.row (k:=n) (by omega)
   rw [ZmN q (by omega)] at o1
   exact Zao o1 (fun j hj=>heap_setCell_other W ⟨z,7,none⟩ j _ (fun e=>by
    have e':j=z:=e;simp [Value.ownBlock] at hj
    omega))
  ·have hw:=h.hq.way i (by omega)
   rw [heap_setCell_other W ⟨z,7,none⟩ (q i) _ (fun e=>by
    have e':q i=z:=e;rw [e',h.box] at hw;simp at hw)]
   exact hw)
 have R2:=hide (show FK W (W.setCell ⟨z,7,none⟩ (.slice (some ⟨g,0,none⟩) n cap)) lo z from FK.of_set _ hz)
 have f7:=fz 7;have hw1:IntKind.i64.wrap (((n+1:Nat):Int)-1)=(n:Int):=by rw [ZaO _ (by omega) (by omega)];omega
 have hw2:IntKind.i64.wrap ((n:Int)+1-1)=(n:Int):=by rw [ZaO _ (by omega) (by omega)];omega
 have h1:(0:Int)<=(n:Int):=by omega
 have h2:(n:Int)<((n+1:Nat):Int):=by omega
 have h3:(n:Int)<=(cap:Int):=by omega
 clear h fz hC
 go_enter Tryz.func180,Tryz.ntmps180
 go_wp2
 go_ret
 first
  | exact ⟨_,rfl,R1.out,R2.out⟩
  | exact ⟨rfl,_,R1.out,R2.out⟩
theorem ZiO (W:World)(lo z n:Nat)(C:Array Value)(u:Value)(q:Nat->Nat)(wd:Nat->WayD)(wv:Nat->Value)(k:Nat)(h:HB W lo z C u n q wd wv)(hlo:lo<=W.heap.size)(hn:n<=1000)(hC:C.size=8)(hz:lo<=z)
  (hk:W.heap[k]? = some (.cells (wayC (wd k) (wv k)) 48)) (hks:∃ a l c,wv k=.slice a l c) (hh:ZcN (fun k=>(wd k).cost) q n):
  Calls Tryz.prog 89 #[.iface 138 (.pointer (some ⟨z,7,none⟩)),.iface 102 (.pointer (some ⟨k,0,none⟩))] W fun e W'=>∃ u' q',e=.returned (.tuple #[])/\ZcN (fun k=>(wd k).cost) q' (n+1)/\Shuf (fun x=>if x=n then k else q x) q' (n+1)/\HB W' lo z (C.setIfInBounds 7 u') u' (n+1) q' wd wv/\FK W W' lo z:=by
 have HP:=hide (ZmO W lo z n C u q wd wv k h hlo hn hC hz hk hks);have HUP:=hide (Zpb (k:=k) hh);clear h hk hh
 go_enter Tryz.func89,Tryz.ntmps89
 go_wp2_with fail
 refine HP.out.mono ?_
 rintro e w1 ⟨u',rfl,h1,f1⟩;have cz1:=h1.cell;obtain⟨a1,c1,rfl⟩:=Zac h1.hq.row;have mL:=Zks cz1;have hs1:lo<=w1.heap.size:=Nat.le_trans hlo f1.size;have HU:=hide (up_any w1 lo z (n+1) _ _ _ wd wv n h1 (by omega) (by omega) HUP.out)
 have HF1:=hide f1;have HR1:=hide h1.hq.row;have hw1:IntKind.i64.wrap (((n+1:Nat):Int)-1)=(n:Int):=by rw [ZaO _ (by omega) (by omega)];omega
 have hw2:IntKind.i64.wrap ((n:Int)+1-1)=(n:Int):=by rw [ZaO _ (by omega) (by omega)];omega
 clear h1 f1 HP HUP
 go_wp2_with fail
 refine (Zh3 _ _ _ _).mono ?_
 rintro e w2 ⟨rfl,rfl⟩
 go_wp2_with fail
 refine HU.out.mono ?_
 rintro e w2 ⟨q',rfl,hi,hsh,hb,hg⟩;have HI:=hide hi;have HS:=hide hsh;have HB2:=hide hb;have HF2:=hide (HF1.out.trans (FK.of_grown HR1.out hg hs1));clear hi hsh hb hg mL
 go_wp2
 go_returns
 exact⟨_,q',rfl,HI.out,HS.out,HB2.out,HF2.out⟩
theorem ZiN {W W':World}{lo z n:Nat}{C:Array Value}{u:Value}{q:Nat->Nat}{wd:Nat->WayD}{wv:Nat->Value}(h:HB W lo z C u n q wd wv)(hg:W.grownBy W' u.ownBlock)(hlo:lo<=W.heap.size):FK W W' lo z:=FK.of_grown h.hq.row hg hlo
theorem ZjE (W:World)(lo z n:Nat)(C:Array Value)(u:Value)(q:Nat->Nat)(wd:Nat->WayD)(wv:Nat->Value)(h:HB W lo z C u (n+1) q wd wv)(hlo:lo<=W.heap.size)(hn:n<=1000)(hC:C.size=8)(hz:lo<=z)(hh:ZcN (fun k=>(wd k).cost) q (n+1)):
  Calls Tryz.prog 91 #[.iface 138 (.pointer (some ⟨z,7,none⟩))] W fun e W'=>∃ u' q',e=.returned (.iface 102 (ptrV (q 0)))/\ZcN (fun k=>(wd k).cost) q' n/\Shuf (Zcf q 0 n) q' n/\HB W' lo z (C.setIfInBounds 7 u') u' n q' wd wv/\FK W W' lo z:=by
 have cz:=h.cell;obtain⟨a1,c1,rfl⟩:=Zac h.hq.row;have mL:=Zks cz;have mS:=ZdW cz;have HSW:=hide (Zfk W lo (n+1) _ q 0 n h.hq.row (by omega) (by omega))
 have HPD:=hide (Zod hh);have HH:=hide h;have hw1:IntKind.i64.wrap (((n+1:Nat):Int)-1)=(n:Int):=by rw [ZaO _ (by omega) (by omega)];omega
 have hw2:IntKind.i64.wrap ((n:Int)+1-1)=(n:Int):=by rw [ZaO _ (by omega) (by omega)];omega
 clear h hh
 go_enter Tryz.func91,Tryz.ntmps91
 go_wp2_with fail
 refine (Zh3 _ _ _ _).mono ?_
 rintro e w1 ⟨rfl,rfl⟩
 go_wp2_with fail
 refine HSW.out.mono ?_
 rintro e w2 ⟨rfl,ho2,hg2⟩;have h2:=HH.out.shuf hg2 ho2 (Shuf.swap q (by omega) (by omega))
 have hs2:lo<=w2.heap.size:=Nat.le_trans hlo hg2.size;have HD:=hide (Znx w2 lo z n (n+1) C _ _ wd wv h2 (by omega) (by omega) HPD.out)
 have HF2:=hide (ZiN HH.out hg2 hlo (z:=z));have HH2:=hide h2;clear h2 ho2 hg2 mL mS cz HSW HPD
 go_wp2_with fail
 refine HD.out.mono ?_
 rintro e w3 ⟨r,q',rfl,hi,hsh,hb,hg⟩;have HI:=hide hi;have HS:=hide hsh;have HF3:=hide (HF2.out.trans (ZiN HH2.out hg hs2 (z:=z)));have HPO:=hide (Zoc w3 lo z n C _ q' wd wv hb hn hC hz);have HQ0:=hide (show q' n=q 0 by
  rw [hsh.rest n (Nat.le_refl _)];unfold Zcf;by_cases e:n=0
  ·rw [if_pos e,e]
  ·rw [if_neg e,if_pos rfl])
 clear hi hsh hb hg HD
 go_wp2_with fail
 refine HPO.out.mono ?_
 rintro e w4 ⟨u',rfl,hb4,f4⟩;rw [HQ0.out];have HB4:=hide hb4;have HF4:=hide (HF3.out.trans f4);clear hb4 f4 HPO
 go_wp2
 go_returns
 exact⟨_,q',rfl,HI.out,HS.out,HB4.out,HF4.out⟩
end Go.Proofs.YtgdgkgmjpnbbcaaGreat
