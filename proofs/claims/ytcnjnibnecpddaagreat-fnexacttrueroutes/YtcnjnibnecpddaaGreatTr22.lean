/-
  Parts.
-/
import Derived.Test.YtcnjnibnecpddaaGreatTr21
import Derived.Test.YtcnjnibnecpddaaGreatTr18
import Derived.Deep.RegionHeldLaw
import Derived.Deep.AppendLies
namespace Go.Proofs.YtcnjnibnecpddaaGreat
open Go.RowKit
set_option linter.unusedSimpArgs false
set_option linter.unusedVariables false
set_option maxRecDepth 100000
set_option maxHeartbeats 8000000
variable {src:Int}{l:List Int}{xs ys:List RecD}{ds es:List WayD}{N hi k lo z:Nat}{o:Obj}{r x:RecD}{hv v v1 v2:Value}{W W' w:World}
def hrdA (f:Int->Int->Bool)(u:Int):Nat->List Int
 | 0=>[]
 | c+1=>hrdA f u c++(if f u (c:Int) then [u,(c:Int)] else [])
def hrdK (f:Int->Int->Bool):Nat->List Int
 | 0=>[]
 | k+1=>hrdK f k++hrdA f ((k:Int)+1) 3
theorem Zjc (f:Int->Int->Bool)(u:Int):∀ c,(hrdA f u c).length<=2*c
 | 0=>by simp [hrdA]
 | c+1=>by
  have:=Zjc f u c;unfold hrdA;rw [YAO]
  split <;> simp <;> omega
theorem ZgJ (f:Int->Int->Bool):∀ k,(hrdK f k).length<=6*k
 | 0=>by simp [hrdK]
 | k+1=>by
  have h1:=ZgJ f k;have h2:=Zjc f ((k:Int)+1) 3;unfold hrdK;rw [YAO];omega
def carB (N:Nat)(ls:List Lk)(bs zs:List Bool)(v u a:Int):Bool:=upI N zs v&&upI N zs u&&lkUp ls bs v u a
def slfD (N:Nat)(ls:List Lk)(ts:List Th)(bs zs:List Bool)(v:Int):SelfD:=⟨v,0,⟨(N:Int),ls,ts⟩,hrdK (carB N ls bs zs v) N⟩
structure HrSt (W:World) (z N:Nat) (v:Int) (v1 v2 hv:Value) (l:List Int):Prop where
 box:W.heap[z]? = some (.cells #[M v,M 0,M (N:Int),v1,v2,hv,.slice none 0 0] 31)
 own:W.ownsRow (z+1) 3 1 hv l.length (flat intE l)
theorem HrSt.below {v:Int}(h:HrSt W z N v v1 v2 hv l)(hb:T_ W W'):HrSt W' z N v v1 v2 hv l:=
 ⟨by rw [hb.block z (Zab h.box)];exact h.box,Zad h.own hb (YA _)⟩
theorem HrSt.kept {w':World}{v:Int}(h:HrSt w z N v v1 v2 hv l)(hg:(w.alloc o).grownBy w' hv.ownBlock):w'.heap[z]? = some (.cells #[M v,M 0,M (N:Int),v1,v2,hv,.slice none 0 0] 31):=by
 have hz:=Zab h.box;rw [hg.block z (by simp;omega) (fun e=>by have:=(h.own.lt z e.symm).1;omega),YAL _ _ _ hz];exact h.box
theorem HrSt.push {w':World}{v:Int}{hv':Value}{l':List Int}(h:HrSt w z N v v1 v2 hv l)(hg:(w.alloc o).grownBy w' hv.ownBlock)(ho:w'.ownsRow (z+1) 3 1 hv' l'.length (flat intE l')):HrSt (w'.setCell (U z 5) hv') z N v v1 v2 hv' l':=by
 refine⟨?_,Zbk ho (by omega)⟩;rw [YAd _ _ 5 _ _ hv' (h.kept hg)];rfl
theorem RecsOwn.concat {Wa Wb:World}{u x:Value}{qs bs:List RP}(h:RecsOwn W lo W.heap.size v qs)(hb:T_ W Wa)(hlo:lo<=W.heap.size)(hu:RecsOwn Wa W.heap.size Wa.heap.size u bs)
  (row:Wb.ownsRow Wa.heap.size 39 8 x (qs++bs).length (flat encP (qs++bs))) (hg:T_ Wa Wb):RecsOwn Wb lo Wb.heap.size x (qs++bs) where
 row:=Zaf row (by have:=hb.size;omega)
 top:=fun k hk=>(row.lt k hk).2
 apart:=by
  rw [YAQ];refine⟨h.apart,hu.apart,fun p hp q hq k hk he=>?_⟩;have h1:=(h.nears p hp).2 k hk;have h2:=((hu.nears q hq).1.lt k he).1;omega
 nears:=fun p hp=>by
  have hs:=hb.size;rcases YAF.1 hp with h1 | h1
  ·exact ((h.nears p h1).keep (fun j _ h2 _=>((hb.trans (hg.mono hs)).block j h2))).wide (YA _) (by have:=hg.size;omega)
  ·exact ((hu.nears p h1).keep (fun j _ h2 _=>hg.block j h2)).wide hlo hg.size
theorem Zoq (w:World)(va vb:Value)(la lb:List RP)(t:TypeId):∀ j x,([(va,la),(vb,lb)]:List (Value × List RP))[j]? = some x->(w.alloc (.cells #[va,vb] t)).cell? (U w.heap.size j)=some x.1:=by
 intro j x hj;rw [Zaa (YAE w _)]
 match j,hj with
 | 0,hj=>simp at hj;subst hj;rfl
 | 1,hj=>simp at hj;subst hj;rfl
 | j+2,hj=>simp at hj
theorem Zqi {va vb:Value}{la lb:List RP}{b1 b2:Nat}(h1:W.ownsRow b1 39 8 va la.length (flat encP la))(h2:W.ownsRow b2 39 8 vb lb.length (flat encP lb)):∀ x∈([(va,la),(vb,lb)]:List (Value × List RP)),∃ base,W.ownsRow base 39 8 x.1 x.2.length (flat encP x.2):=by
 intro x hx;simp at hx;rcases hx with rfl | rfl
 ·exact ⟨_,h1⟩
 ·exact ⟨_,h2⟩
theorem ZrT {va vb:Value}{la lb:List RP}{b1 b2 c1 c2:Nat}(h1:RecsOwn W b1 c1 va la)(h2:RecsOwn W' b2 c2 vb lb):∀ x∈([(va,la),(vb,lb)]:List (Value × List RP)),∀ p∈x.2,∀ u∈encP p,u.oneCell'=true:=by
 intro x hx p hp;simp at hx;rcases hx with rfl | rfl
 ·exact Zem (h1.nears p hp)
 ·exact Zem (h2.nears p hp)
theorem Zso (N:Nat)(v1 v2 v3 v4 v5 v6 v7 v8:Value)(er:Int)(v:Int)(ls:List Lk)(ts:List Th)(bs zs:List Bool)(w:World)(h1:w.ownsRow 0 173 4 v1 ls.length (flat lkE ls))(h2:ZaU w v2 ts w.heap.size)(h3:Za6 w v3 bs w.heap.size)(h4:Za6 w v4 zs w.heap.size)(hl:bs.length=ls.length)(hls:ls.length<=1000)(hts:ts.length<=1000)(hz:zs.length=N)(hN:N<=6):
  Calls Tryz.prog 81 #[wldV N v1 v2 v3 v4 v5 v6 v7 v8 er,M v] w fun e w'=>∃ u qs,e=.returned u/\fsts qs=nodD (slfD N ls ts bs zs v) (ZbW ls v)++Zfu (slfD N ls ts bs zs v) ts/\RecsOwn w' w.heap.size w'.heap.size u qs/\T_ w w':=by
 have HC:=hide (fun W (hb:T_ w W) (t r:Int)=>Zk2 N v1 v2 v3 v4 v5 v6 v7 v8 er 0 v t r (.slice none 0 0) (.slice none 0 0) ls bs zs W (Zad h1 hb (YA _)) (Zaw.then h3 hb) (Zaw.then h4 hb) hl (by omega) hz (by omega));have HN:=hide (fun W (hb:T_ w W) (hv:Value) (l:List Int) (hll:l.length<=1048576) (hh:ZaI W hv l W.heap.size)=>Zpe v1 v2 hv (.slice none 0 0) ⟨v,0,⟨(N:Int),ls,ts⟩,l⟩ W (by show ls.length<=_;omega) hll (Zaw.then (show ZaV w v1 ls w.heap.size from Zan h1) hb) hh);have HT:=hide (fun W (hb:T_ w W) (hv:Value) (l:List Int)=>Zn4 v1 v2 hv (.slice none 0 0) ⟨v,0,⟨(N:Int),ls,ts⟩,l⟩ W (by show ts.length<=_;omega) (Zaw.then h2 hb));obtain⟨a1,c1,hv1⟩:=Zac h1;obtain⟨a2,c2,hv2⟩:=ZaU.shape h2;obtain⟨a3,c3,hv3⟩:=h3.shape;obtain⟨a4,c4,hv4⟩:=h4.shape;have HTS:=hide hts;clear h1 h2 h3 h4 hls hts hz hl;unfold wldV pakV at HC;unfold ZlR at HN HT;simp only [] at HN HT;unfold wldV;obtain⟨f,hf⟩:∃ f,f=carB N ls bs zs v:=⟨_,rfl⟩;have HC2:=hide (fun W hb t r=>by have h:=HC.out W hb t r;rw [show (upI N zs v&&upI N zs t&&lkUp ls bs v t r)=f t r by rw [hf];rfl] at h;exact h);have HSL:=hide (show slfD N ls ts bs zs v=⟨v,0,⟨(N:Int),ls,ts⟩,hrdK f N⟩ by rw [hf];rfl);clear HC hf;have hg0:((w.alloc (.cells #[M (N:Int),v1,v2,v3,v4,v5,v6,v7,v8,M er] 113)).alloc (.cells #[M v,M 0,M (N:Int),v1,v2,.slice none 0 0,.slice none 0 0] 31)).heap[w.heap.size]? = some (.cells #[M (N:Int),v1,v2,v3,v4,v5,v6,v7,v8,M er] 113):=by rw [YAL _ _ _ (by simp),YAE]
 have hg1:((w.alloc (.cells #[M (N:Int),v1,v2,v3,v4,v5,v6,v7,v8,M er] 113)).alloc (.cells #[M v,M 0,M (N:Int),v1,v2,.slice none 0 0,.slice none 0 0] 31)).heap[w.heap.size+1]? = some (.cells #[M v,M 0,M (N:Int),v1,v2,.slice none 0 0,.slice none 0 0] 31):=by
  have:=YAE (w.alloc (.cells #[M (N:Int),v1,v2,v3,v4,v5,v6,v7,v8,M er] 113)) (.cells #[M v,M 0,M (N:Int),v1,v2,.slice none 0 0,.slice none 0 0] 31);simpa using this
 have B0:T_ w ((w.alloc (.cells #[M (N:Int),v1,v2,v3,v4,v5,v6,v7,v8,M er] 113)).alloc (.cells #[M v,M 0,M (N:Int),v1,v2,.slice none 0 0,.slice none 0 0] 31)):=Zap _ _;have ST0:=hide (show HrSt _ (w.heap.size+1) N v v1 v2 (.slice none 0 0) (hrdK f 0) from ⟨hg1,by simp [hrdK,flat];exact YAX _ _ _ _⟩);have HG0:=hide hg0;have HB0:=hide B0;clear hg0 hg1 B0;subst hv1 hv2 hv3 hv4
 go_enter Tryz.func81,Tryz.ntmps81
 go_wp2;generalize (w.alloc (.cells #[M (N:Int),.slice a1 ls.length c1,.slice a2 ts.length c2,.slice a3 bs.length c3,.slice a4 zs.length c4,v5,v6,v7,v8,M er] 113)).alloc (.cells #[M v,M 0,M (N:Int),.slice a1 ls.length c1,.slice a2 ts.length c2,.slice none 0 0,.slice none 0 0] 31)=w0 at *;have hw0:=HB0.out.size;have hz0:=Zab HG0
 go_loopw [6] (fun i wr=>∃ (k:Nat) (hv:Value),k<=N/\i=M ((k:Int)+1)/\Hid (HrSt wr (w.heap.size+1) N v (.slice a1 ls.length c1) (.slice a2 ts.length c2) hv (hrdK f k))/\Hid (wr.heap[w.heap.size]? = some (.cells #[M (N:Int),.slice a1 ls.length c1,.slice a2 ts.length c2,.slice a3 bs.length c3,.slice a4 zs.length c4,v5,v6,v7,v8,M er] 113))/\T_ w wr) (fun i _=>N+1-(intOf i).toNat)
 case atStart=>exact ⟨0,_,by omega,rfl,ST0,HG0,HB0⟩
 case round=>
  obtain⟨k,hv,hk,rfl,ST,GB,hnx⟩:=hrel;have hlk:=ZgJ f k;have zq:=Zaa GB.out 0;simp only [YAN,YAJ] at zq
  rename World=>wa
  by_cases hlt:k<N
  ·have hle:(k:Int)+1<=(N:Int):=by omega
   have HST0:=hide (show hrdK f k++hrdA f ((k:Int)+1) 0=hrdK f k by simp [hrdA]);have HSTN:=hide (show hrdK f (k+1)=hrdK f k++hrdA f ((k:Int)+1) 3 from rfl);go_wp2
   go_loopw [19] (fun i wr=>∃ (c:Nat) (hv:Value),c<=3/\i=M (c:Int)/\Hid (HrSt wr (w.heap.size+1) N v (.slice a1 ls.length c1) (.slice a2 ts.length c2) hv (hrdK f k++hrdA f ((k:Int)+1) c))/\Hid (wr.heap[w.heap.size]? = some (.cells #[M (N:Int),.slice a1 ls.length c1,.slice a2 ts.length c2,.slice a3 bs.length c3,.slice a4 zs.length c4,v5,v6,v7,v8,M er] 113))/\T_ w wr) (fun i _=>3-(intOf i).toNat)
   case atStart=>exact ⟨0,hv,by omega,rfl,hide (by rw [HST0.out];exact ST),GB,hnx⟩
   case round=>
    clear ST GB zq hnx;obtain⟨c,hv,hc,rfl,ST,GB,hnx⟩:=hrel;have hsz:=hnx.size;by_cases hct:c<3
    ·have hci:(c:Int)<3:=by omega
     have HSA:=hide (show hrdA f ((k:Int)+1) (c+1)=hrdA f ((k:Int)+1) c++(if f ((k:Int)+1) (c:Int) then [(k:Int)+1,(c:Int)] else []) from rfl);have hlA:=Zjc f ((k:Int)+1) c;have HCX:=hide (HC2 wr hnx ((k:Int)+1) (c:Int));obtain⟨q,hq⟩:∃ q,q=f ((k:Int)+1) (c:Int):=⟨_,rfl⟩;rw [<-hq] at HCX HSA;clear hq;have z0:=Zaa GB.out 0;have z1:=Zaa GB.out 1;have z2:=Zaa GB.out 2;have z3:=Zaa GB.out 3;have z4:=Zaa GB.out 4;have z5:=Zaa GB.out 5;have z6:=Zaa GB.out 6;have z7:=Zaa GB.out 7;have z8:=Zaa GB.out 8;have z9:=Zaa GB.out 9;simp only [YAN,YAK,YAJ] at z0 z1 z2 z3 z4 z5 z6 z7 z8 z9
     go_wp2_with fail
     refine HCX.out.mono ?_;rintro e w2 ⟨rfl,b2⟩;have hs2:=b2.size;have ST2:=hide (ST.out.below b2);have G2:=hide ((b2.block _ (Zab GB)).trans GB);have B2:T_ w w2:=hnx.trans (b2.mono hsz);clear b2 z0 z1 z2 z3 z4 z5 z6 z7 z8 z9 ST GB;cases q
     ·go_wp2;go_roundw
      case rel=>exact ⟨c+1,hv,by omega,by go_num,hide (by rw [HSA.out];simp only [Bool.false_eq_true,if_false,List.append_nil];exact ST2),G2,B2⟩
      case measure=>exact MS_
     ·obtain ⟨l,hl⟩:∃ l,l=hrdK f k++hrdA f ((k:Int)+1) c:=⟨_,rfl⟩;have HQL:=hide (show l.length<=1000 by rw [hl,YAO];omega);rw [<-hl] at ST2;have HLL:=hide hl;clear hl;obtain⟨ha,hcc,hve⟩:=Zac ST2.out.own;have y5:=Zaa ST2.out.box 5;simp only [YAN,YAK,YAJ] at y5;have hz2:w.heap.size+1<w2.heap.size:=Zab ST2.out.box;subst hve
      go_wp2_with (first
       | (at_builtin;(refine Zgk (by decide) _ rfl _ _ 28 rfl (w.heap.size+1+1) 3 Tryz.underlying28 Tryz.info3 _ l ((k:Int)+1) (c:Int) rfl (ST2.out.own.alloc _) (U w2.heap.size 0) 2 rfl (Zar (cs:=[M ((k:Int)+1),M (c:Int)])) (by have:=HQL.out;omega) (by simp;try omega) ?_;intro v' w4 l' hl' hown' hgrow;have k4:=ST2.out.kept hgrow;have f5:=Zae k4 5;have c5:=Zaa k4 5;simp only [YAN,YAK,YAJ] at c5;have ST4:=hide (ST2.out.push hgrow hown');have hg4:w.heap.size<w2.heap.size:=(by omega);have g4:=(hgrow.block w.heap.size (by simp;try omega) (fun e=>by have:=(ST2.out.own.lt _ e.symm).1;omega)).trans ((YAL _ _ _ hg4).trans G2);have G4:=hide ((YAU w4 (U (w.heap.size+1) 5) w.heap.size v' (by simp)).trans g4);have B4:=hide (((B2.alloc (by omega) _).grown hgrow (by simp;try omega) (fun k hk=>by have:=(ST2.out.own.lt k hk).1;omega)).trans (Frame.below (Frame.set (lo:=w.heap.size) (hi:=w.heap.size+2) w4 (w.heap.size+1) 5 v' (by omega) (by omega)) (by have:=hgrow.size;simp at this;try omega)));obtain⟨va,vc,hvv⟩:=Zac hown';subst hvv;clear k4 hown' hgrow g4)))
      go_roundw
      case rel=>exact ⟨c+1,_,by omega,by go_num,hide (by rw [HSA.out];simp only [if_true];rw [<-YAW, <-HLL.out, <-hl'.out];exact ST4),G4,B4⟩
      case measure=>exact MS_
    ·have KN:=hide (show c=3 by omega);have hci:¬(c:Int)<3:=by omega
     go_wp2;go_roundw
     case rel=>exact ⟨k+1,hv,by omega,by go_num,hide (by rw [HSTN.out, <-KN.out];exact ST),GB,hnx⟩
     case measure=>exact MS_
  ·have KN:=hide (show k=N by omega);have hle:¬(k:Int)+1<=(N:Int):=by omega
   have hv5:∃ hv5,hv5=hv:=⟨_,rfl⟩;have h0:=ST.out;rw [KN.out] at h0;clear ST;obtain⟨ha,hc,hve⟩:=Zac h0.own;subst hve;have HQL:=hide (show (hrdK f N).length<=36 by have:=ZgJ f N;omega);have hz2:w.heap.size+1<wa.heap.size:=Zab h0.box;have y0:=Zaa h0.box 0;have y1:=Zaa h0.box 1;have y2:=Zaa h0.box 2;have y3:=Zaa h0.box 3;have y4:=Zaa h0.box 4;have y5:=Zaa h0.box 5;have y6:=Zaa h0.box 6;simp only [YAN,YAK,YAJ] at y0 y1 y2 y3 y4 y5 y6;have HH:=hide (show ZaI wa.drew (.slice ha (hrdK f N).length hc) (hrdK f N) wa.drew.heap.size from Zan h0.own.drew);clear h0 hv5 GB;go_wp2;clear zq;refine Zah (S:=(fun (W:World)=>W.cell? (U (w.heap.size+1) 0)=some (M v)/\W.cell? (U (w.heap.size+1) 1)=some (M 0)/\W.cell? (U (w.heap.size+1) 2)=some (M (N:Int))/\W.cell? (U (w.heap.size+1) 3)=some (.slice a1 ls.length c1)/\W.cell? (U (w.heap.size+1) 4)=some (.slice a2 ts.length c2)/\W.cell? (U (w.heap.size+1) 5)=some (.slice ha (hrdK f N).length hc)/\W.cell? (U (w.heap.size+1) 6)=some (.slice none 0 0))) (by kernel_rfl) 7 rfl ⟨y0,y1,y2,y3,y4,y5,y6⟩ (fun ops hops hHeld=>?_);refine TD 0 ?_
   try simp only [putS]
   refine TD 2 ?_
   try simp only [putS]
   refine TC 1 ?_;intro K hK;go_simp;refine (HN wa.drew hnx.drew _ _ (by have:=HQL.out;omega) HH).mono ?_;rintro e w2 ⟨u2,q2,rfl,e2,o2,b2⟩;have hs2:wa.heap.size<=w2.heap.size:=b2.size;obtain⟨a5,c5,rfl⟩:=Zac o2.row;have E2:=hide e2;have O2:=hide o2;clear e2 o2;refine hK _ _ ?_ (fun hHeld=>?_)
   ·obtain ⟨m0,m1,m2,m3,m4,m5,m6⟩:=hHeld;exact⟨(b2.cell hz2).trans m0,(b2.cell hz2).trans m1,(b2.cell hz2).trans m2,(b2.cell hz2).trans m3,(b2.cell hz2).trans m4,(b2.cell hz2).trans m5,(b2.cell hz2).trans m6⟩
   clear hK K
   try simp only [putS]
   refine TC 3 ?_;intro K hK;go_simp;refine (HT w2 (hnx.drew.trans (b2.mono hnx.size)) _ (hrdK f N)).mono ?_;rintro e w3 ⟨u3,q3,rfl,e3,o3,b3⟩;have hs3:w2.heap.size<=w3.heap.size:=b3.size;obtain⟨a6,c6,rfl⟩:=Zac o3.row;have E3:=hide e3;have O3:=hide o3;clear e3 o3;refine hK _ _ ?_ (fun hHeld=>?_)
   ·obtain ⟨m0,m1,m2,m3,m4,m5,m6⟩:=hHeld;exact⟨(b3.cell (YAB hz2 hs2)).trans m0,(b3.cell (YAB hz2 hs2)).trans m1,(b3.cell (YAB hz2 hs2)).trans m2,(b3.cell (YAB hz2 hs2)).trans m3,(b3.cell (YAB hz2 hs2)).trans m4,(b3.cell (YAB hz2 hs2)).trans m5,(b3.cell (YAB hz2 hs2)).trans m6⟩
   clear hK K
   try simp only [putS]
   refine TC 4 ?_;intro K hK;go_simp;refine hK _ _ ?_ (fun hHeld=>?_)
   ·obtain ⟨m0,m1,m2,m3,m4,m5,m6⟩:=hHeld;exact⟨(((YAC w3.heap.size w3).alloc (YA _) _).cell (YAB hz2 (YAG hs2 hs3))).trans m0,(((YAC w3.heap.size w3).alloc (YA _) _).cell (YAB hz2 (YAG hs2 hs3))).trans m1,(((YAC w3.heap.size w3).alloc (YA _) _).cell (YAB hz2 (YAG hs2 hs3))).trans m2,(((YAC w3.heap.size w3).alloc (YA _) _).cell (YAB hz2 (YAG hs2 hs3))).trans m3,(((YAC w3.heap.size w3).alloc (YA _) _).cell (YAB hz2 (YAG hs2 hs3))).trans m4,(((YAC w3.heap.size w3).alloc (YA _) _).cell (YAB hz2 (YAG hs2 hs3))).trans m5,(((YAC w3.heap.size w3).alloc (YA _) _).cell (YAB hz2 (YAG hs2 hs3))).trans m6⟩
   clear hK K
   try simp only [putS]
   refine TC 5 ?_;intro K hK;go_simp;refine (Zk5 [(.slice a5 q2.length c5,q2),(.slice a6 q3.length c6,q3)] w3.heap.size _ (Zoq _ _ _ _ _ _) (Zqi ((Zad O2.out.row b3 (YA _)).alloc _) (O3.out.row.alloc _)) (ZrT O2 O3) (by have h1:=congrArg List.length E2.out;have h2:=congrArg List.length E3.out;have h3:=ZdE ls v;have h4:=Zjv ⟨v,0,⟨(N:Int),ls,ts⟩,hrdK f N⟩ ts;have h5:=HTS.out;rw [Zpd] at h1;simp [fsts] at h1 h2 h3 h4;simp [sumL];omega) (by simp) (by simp)).mono ?_;rintro e w4 ⟨x,rfl,ho,b4⟩;have HO:=hide ho;clear ho;refine hK _ _ ?_ (fun hHeld=>?_)
   ·obtain ⟨m0,m1,m2,m3,m4,m5,m6⟩:=hHeld;exact⟨(b4.cell (YAB hz2 (YAG hs2 (YAG hs3 (by simp))))).trans m0,(b4.cell (YAB hz2 (YAG hs2 (YAG hs3 (by simp))))).trans m1,(b4.cell (YAB hz2 (YAG hs2 (YAG hs3 (by simp))))).trans m2,(b4.cell (YAB hz2 (YAG hs2 (YAG hs3 (by simp))))).trans m3,(b4.cell (YAB hz2 (YAG hs2 (YAG hs3 (by simp))))).trans m4,(b4.cell (YAB hz2 (YAG hs2 (YAG hs3 (by simp))))).trans m5,(b4.cell (YAB hz2 (YAG hs2 (YAG hs3 (by simp))))).trans m6⟩
   clear hK K
   try simp only [putS]
   refine TD 6 ?_
   try simp only [putS]
   refine wpAnyH_done (by rw [hops.out];kernel_rfl) ?_ _;clear hops ops;go_wp2;go_ret;have h9:=HO.out;simp only [Zb4,List.map_cons,List.map_nil,List.flatten_cons,List.flatten_nil,List.append_nil] at h9;refine⟨_,q2++q3,rfl,?_,RecsOwn.wide (RecsOwn.concat (lo:=wa.drew.heap.size) O2 b3 b2.size O3 (Zaf h9 (by simp)) (((YAC _ _).alloc (YA _) _).trans (b4.mono (by simp)))) hnx.size (YA _),((hnx.drew.trans (b2.mono hnx.size)).trans (b3.mono (YAG hnx.size hs2))).trans ((((YAC w3.heap.size w3).alloc (YA _) _).trans (b4.mono (by simp))).mono (YAG hnx.size (YAG hs2 hs3)))⟩;rw [HSL.out];show (q2++q3).map (·.1)=_;rw [YAh];exact congr (congrArg _ E2) E3
def upsK (zs:List Bool):Nat->List Int
 | 0=>[]
 | k+1=>upsK zs k++(if upB zs k then [(k:Int)+1] else [])
theorem ZjF (zs:List Bool):∀ k,(upsK zs k).length<=k
 | 0=>by simp [upsK]
 | k+1=>by
  have:=ZjF zs k;unfold upsK;rw [YAO]
  split <;> simp <;> omega
theorem ZlK (N:Nat)(v1 v2 v3 v4 v5 v6 v7 v8:Value)(er:Int)(zs:List Bool)(w:World)(hz:Za6 w v4 zs w.heap.size)(hl:zs.length=N)(hN:N<=100000):
  Calls Tryz.prog 79 #[wldV N v1 v2 v3 v4 v5 v6 v7 v8 er] w fun e w'=>∃ x,e=.returned x/\w'.ownsRow w.heap.size 3 1 x (upsK zs N).length (Za5 (upsK zs N))/\T_ w w':=by
 have HU:=hide (fun W (hb:T_ w W) (v:Int)=>Zmo N v1 v2 v3 v4 v5 v6 v7 v8 er zs v W (Zaw.then hz hb) hl (by omega));obtain⟨a4,c4,rfl⟩:=hz.shape;rw [hl] at HU |-;unfold wldV at *;have HL:=hide hl;clear hz hl;have G0:=hide (YAE w (.cells #[M (N:Int),v1,v2,v3,.slice a4 N c4,v5,v6,v7,v8,M er] 113));have B0:T_ w (w.alloc (.cells #[M (N:Int),v1,v2,v3,.slice a4 N c4,v5,v6,v7,v8,M er] 113)):=(YAC _ _).alloc (YA _) _
 go_enter Tryz.func79,Tryz.ntmps79
 go_wp2;generalize w.alloc (.cells #[M (N:Int),v1,v2,v3,.slice a4 N c4,v5,v6,v7,v8,M er] 113)=w0 at *;have z0:=Zaa G0.out 0;have z1:=Zaa G0.out 1;have z2:=Zaa G0.out 2;have z3:=Zaa G0.out 3;have z4:=Zaa G0.out 4;have z5:=Zaa G0.out 5;have z6:=Zaa G0.out 6;have z7:=Zaa G0.out 7;have z8:=Zaa G0.out 8;have z9:=Zaa G0.out 9;simp at z0 z1 z2 z3 z4 z5 z6 z7 z8 z9;have hz0:=Zab G0;have hw0:=B0.size
 go_loopw [4,3] (fun i o wr=>∃ (k:Nat) (u:Value),k<=N/\i=M ((k:Int)+1)/\o=u/\Hid (wr.ownsRow w0.heap.size 3 1 u (upsK zs k).length (Za5 (upsK zs k)))/\T_ w0 wr) (fun i _ _=>N+1-(intOf i).toNat)
 case atStart=>exact ⟨0,_,by omega,rfl,rfl,hide (by simp [upsK,Za5];exact YAX _ _ _ _),YAC _ _⟩
 case round=>
  obtain⟨k,u,hk,rfl,rfl,OW,hnx⟩:=hrel;obtain⟨ua,uc,hue⟩:=Zcq OW.out;have hsz:=hnx.size;replace z0:=(hnx.cell hz0).trans z0;replace z1:=(hnx.cell hz0).trans z1;replace z2:=(hnx.cell hz0).trans z2;replace z3:=(hnx.cell hz0).trans z3;replace z4:=(hnx.cell hz0).trans z4;replace z5:=(hnx.cell hz0).trans z5;replace z6:=(hnx.cell hz0).trans z6;replace z7:=(hnx.cell hz0).trans z7;replace z8:=(hnx.cell hz0).trans z8;replace z9:=(hnx.cell hz0).trans z9;by_cases hlt:k<N
  ·obtain ⟨b,hb⟩:∃ b,upB zs k=b:=⟨_,rfl⟩;have hI:upI N zs ((k:Int)+1)=b:=by
    unfold upI;rw [show inB ((k:Int)+1) 1 (N:Int)=true by simp [inB];omega,show ((k:Int)+1-1).toNat=k by omega,hb];rfl
   have HCX:=hide (HU wr (B0.trans (hnx.mono hw0)) ((k:Int)+1));rw [hI] at HCX;have HST:=hide (show upsK zs (k+1)=upsK zs k++(if b then [(k:Int)+1] else []) by rw [<-hb];rfl);have hpl:=ZjF zs k;have hle:(k:Int)+1<=(N:Int):=by omega
   clear hI hb;subst hue
   go_wp2_with fail
   refine HCX.out.mono ?_;rintro e w1 ⟨rfl,b1⟩;have hs1:=b1.size;have OW1:=hide (Zad OW b1 (YA _));have BF:T_ w0 w1:=hnx.trans (b1.mono hsz);clear b1 z0 z1 z2 z3 z4 z5 z6 z7 z8 z9;cases b
   ·go_wp2;go_roundw
    case rel=>exact ⟨k+1,_,by omega,by go_num,rfl,hide (by rw [HST.out];simp only [Bool.false_eq_true,if_false,List.append_nil];exact OW1),BF⟩
    case measure=>exact MS_
   ·go_wp2_with (first
     | (at_builtin;refine Zbt _ rfl _ _ 28 rfl w0.heap.size 3 Tryz.underlying28 Tryz.info3 _ (upsK zs k) ((k:Int)+1) rfl (OW1.out.alloc _) (U w1.heap.size 0) 1 rfl ?_ (by omega) (by simp;omega) ?_))
    ·rw [add_zero',World.cell?_alloc_at _ _ _ _ rfl];rfl
    intro v' w4 l' hl' hown' hgrow;have hb4:T_ w0 w4:=(BF.alloc (by omega) _).grown hgrow (by simp;omega) (fun k hk=>(OW1.out.lt k hk).1);have OW2:=hide (show w4.ownsRow w0.heap.size 3 1 v' (upsK zs (k+1)).length (Za5 (upsK zs (k+1))) by
     have e:l'=upsK zs (k+1):=by rw [hl'.out,HST.out];rfl
     rw [<-e];exact hown')
    clear hgrow hown' hl';go_wp2;go_roundw
    case rel=>exact ⟨k+1,_,by omega,by go_num,rfl,OW2,hb4⟩
    case measure=>exact MS_
  ·have KN:=hide (show k=N by omega);have hle:¬(k:Int)+1<=(N:Int):=by omega
   subst hue;go_wp2;go_ret;have h1:=OW.out;rw [KN.out] at h1;exact⟨_,by rw [KN.out];rfl,ZfS h1 hw0,B0.trans (hnx.mono hw0)⟩
theorem Zhb (x y:RecD):Zat x y=true↔x.area=y.area/\x.kind=y.kind/\x.owner=y.owner/\x.key=y.key:=by
 simp [Zat,and_assoc]
def difK (x y:RecD):Prop:=Zat x y=false
theorem Zrd (xs:List RecD)(r x:RecD):x∈putD xs r↔x=r\/(x∈xs/\Zat x r=false):=by
 unfold putD;simp only [YAW,YAF,YAY,YAy];constructor
 ·rintro (h | h | h)
  ·refine .inr ⟨h.1,?_⟩;cases e:Zat x r with
   | false=>rfl
   | true=>rw [(Zbv e).1] at h;exact absurd h.2 (by decide)
  ·exact .inl h
  ·refine .inr ⟨h.1,?_⟩;cases e:Zat x r with
   | false=>rfl
   | true=>rw [(Zbv e).2] at h;exact absurd h.2 (by decide)
 ·rintro (h | ⟨h,hk⟩)
  ·exact .inr (.inl h)
  ·rcases ZiQ x r with e | e | e
   ·exact .inl ⟨h,e⟩
   ·rw [hk] at e;cases e
   ·exact .inr (.inr ⟨h,e⟩)
theorem Zef :∀ (ts xs:List RecD)(x:RecD),ts.Pairwise difK->(x∈ts.foldl putD xs↔x∈ts\/(x∈xs/\∀ t∈ts,Zat x t=false))
 | [],xs,x,_=>by simp
 | t::ts,xs,x,h=>by
  rw [List.foldl_cons,Zef ts (putD xs t) x (YAr.1 h).2,Zrd];have h1:=(YAr.1 h).1;constructor
  ·rintro (h2 | ⟨h2 | h2,h3⟩)
   ·exact .inl (YAi _ h2)
   ·exact .inl (by rw [h2];exact List.mem_cons_self ..)
   ·refine .inr ⟨h2.1,fun u hu=>?_⟩;rcases YAg.1 hu with e | e
    ·rw [e];exact h2.2
    ·exact h3 u e
  ·rintro (h2 | ⟨h2,h3⟩)
   ·rcases YAg.1 h2 with e | e
    ·refine .inr ⟨.inl e,fun u hu=>?_⟩;rw [e];exact h1 u hu
    ·exact .inl e
   ·exact .inr ⟨.inr ⟨h2,h3 t (List.mem_cons_self ..)⟩,fun u hu=>h3 u (YAi _ hu)⟩
theorem ZeB :∀ (ts xs:List RecD),Asc xs->Asc (ts.foldl putD xs)
 | [],_,h=>h
 | t::ts,xs,h=>ZeB ts (putD xs t) (ZiP h t)
theorem ZhS (xs ts:List RecD):Zd7 xs ts=(ts.map seq1).foldl putD xs:=by
 unfold Zd7;rw [List.foldl_map]
theorem ZrP (h:Asc xs):xs.Pairwise difK:=h.imp (fun {a b} hab=>by
 unfold difK;cases e:Zat a b with
 | false=>rfl
 | true=>rw [(Zbv e).1] at hab;cases hab)
theorem ZrQ (h:Asc xs){y:RecD}(hx:x∈xs)(hy:y∈xs)(hs:Zat x y=true):x=y:=by
 induction xs with
 | nil=>cases hx
 | cons z zs ih=>
  have h1:=(YAr.1 h);rcases YAg.1 hx with rfl | hx'
  ·rcases YAg.1 hy with e | hy'
   ·exact e.symm
   ·have:=h1.1 y hy';rw [(Zbv hs).1] at this;cases this
  ·rcases YAg.1 hy with rfl | hy'
   ·have:=h1.1 x hx';rw [(Zbv hs).2] at this;cases this
   ·exact ih h1.2 hx' hy'
theorem Zg2 (h:Zfb xs r=true):ZfE xs r∈xs/\Zat (ZfE xs r) r=true:=by
 rcases Zea xs r with hz | ⟨k,x,hz,hx,hs⟩
 ·rw [(ZfF hz).2] at h;cases h
 ·rw [(Zi7 hz hx).1];exact⟨YAH hx,hs⟩
theorem Zi8 (h:Zfb xs r=false):ZfE xs r=Zbf/\∀ x∈xs,Zat x r=false:=by
 rcases Zea xs r with hz | ⟨k,x,hz,hx,hs⟩
 ·refine ⟨(ZfF hz).1,fun x hx=>?_⟩;cases e:Zat x r with
  | false=>rfl
  | true=>
   unfold atZ at hz;cases hi:xs.findIdx? (fun x=>Zat x r) with
   | none=>rw [List.findIdx?_eq_none_iff] at hi;rw [hi x hx] at e;cases e
   | some i=>rw [hi] at hz;simp at hz
 ·rw [(Zi7 hz hx).2] at h;cases h
theorem Zqq (ha:Asc xs)(hx:x∈xs)(hs:Zat x r=true):ZfE xs r=x/\Zfb xs r=true:=by
 cases e:Zfb xs r with
 | false=>rw [(Zi8 e).2 x hx] at hs;cases hs
 | true=>
  have h:=Zg2 e;refine⟨ZrQ ha h.1 hx ?_,rfl⟩;rw [Zhb] at *;obtain⟨_,a,b,c,d⟩:=h;obtain⟨a',b',c',d'⟩:=hs;exact⟨a.trans a'.symm,b.trans b'.symm,c.trans c'.symm,d.trans d'.symm⟩
theorem Znb (hx:Asc xs)(hy:Asc ys)(h:∀ z,Zat z r=true->(z∈xs↔z∈ys)):ZfE xs r=ZfE ys r/\Zfb xs r=Zfb ys r:=by
 cases e:Zfb xs r with
 | true=>
  have h1:=Zg2 e;have h2:=Zqq hy ((h _ h1.2).1 h1.1) h1.2;exact⟨h2.1.symm,h2.2.symm⟩
 | false=>
  have h1:=Zi8 e;cases e2:Zfb ys r with
  | false=>exact ⟨h1.1.trans (Zi8 e2).1.symm,rfl⟩
  | true=>
   have h2:=Zg2 e2;have:=h1.2 _ ((h _ h2.2).2 h2.1);rw [h2.2] at this;cases this
theorem ZiB (h:ZaA xs=true):Asc xs:=by
 unfold ZaA at h;simp only [YAM] at h;exact asc_of h.2
theorem Zn9 {a:Int}(hx:ZaA xs=true)(hy:ZaA ys=true)(h:∀ z,z.kind=1->z.area=a->(z∈xs↔z∈ys)):ZbO xs a src=ZbO ys a src:=by
 have hn:∀ node,ZcC xs a node=ZcC ys a node/\Zhj xs a node=Zhj ys a node:=fun node=>
  Znb (ZiB hx) (ZiB hy) (fun z hz=>by
   have:=(Zhb _ _).1 hz;exact h z this.2.1 this.1)
 have hl:Zei xs a=Zei ys a:=by
  funext u v;unfold Zei Znq Ze4;simp only [(hn _).1]
 have hw:Zbn xs a src=Zbn ys a src:=by
  funext ds;unfold Zbn;rw [hx,hy,(hn src).2,hl]
 by_cases hd:∃ ds,Zbn xs a src ds
 ·obtain ⟨ds,hds⟩:=hd;have h1:=Zbn.eq hds;rw [hw] at hds;rw [<-h1, <-Zbn.eq hds]
 ·have hd2:¬∃ ds,Zbn ys a src ds:=by rw [<-hw];exact hd
  unfold ZbO;rw [dif_neg hd,dif_neg hd2]
theorem ZiD {al:List Int}{area:Int}(hx:ZaA xs=true)(hy:ZaA ys=true)(ha:area∈al)(h1:∀ z,z.kind=1->z.area∈al->(z∈xs↔z∈ys))(h2:∀ z,z.kind=2->z.owner≠src->z.area∈al->(z∈xs↔z∈ys))(to c:Int):
  Zcs xs al src area to c↔Zcs ys al src area to c:=by
 have hw:∀ a∈al,ZbO xs a src=ZbO ys a src:=fun a hin=>Zn9 hx hy (fun z hk hz=>h1 z hk (by rw [hz];exact hin));have e1:ZcD xs area src to=ZcD ys area src to:=by unfold ZcD;rw [hw area ha]
 have e2:Zas xs al src to=Zas ys al src to:=by
  funext w;unfold Zas;apply propext;constructor
  ·rintro ⟨a,b,hb,hc⟩;exact⟨a,b,hb,by rw [<-hw b hb];exact hc⟩
  ·rintro ⟨a,b,hb,hc⟩;exact⟨a,b,hb,by rw [hw b hb];exact hc⟩
 have e3:Zbw xs al true src to=Zbw ys al true src to:=by
  funext d;unfold Zbw outS ZcG;rw [e2];apply propext;constructor
  ·rintro ⟨p,a,ha',hb,hd,r,hr,hk,har,ho,v,hv⟩;exact⟨p,a,ha',hb,hd,r,(h2 r hk ho (by rw [har];exact ha')).1 hr,hk,har,ho,v,by rw [<-hw a ha'];exact hv⟩
  ·rintro ⟨p,a,ha',hb,hd,r,hr,hk,har,ho,v,hv⟩;exact⟨p,a,ha',hb,hd,r,(h2 r hk ho (by rw [har];exact ha')).2 hr,hk,har,ho,v,by rw [hw a ha'];exact hv⟩
 unfold Zcs;rw [e1,e2,e3]
theorem Zgs {al:List Int}{area:Int}{ds:List RecD}(hx:ZaA xs=true)(hy:ZaA ys=true)(ha:area∈al)(h1:∀ z,z.kind=1->z.area∈al->(z∈xs↔z∈ys))(h2:∀ z,z.kind=2->z.owner≠src->z.area∈al->(z∈xs↔z∈ys))(h:ZbR xs al src area ds):ZbR ys al src area ds:=
 ⟨h.1,fun r=>by rw [h.2 r];constructor <;> (rintro ⟨to,c,e,ht⟩;exact⟨to,c,e,by first | exact (ZiD hx hy ha h1 h2 to c).1 ht | exact (ZiD hx hy ha h1 h2 to c).2 ht⟩)⟩
def offQ (r:RecD)(d:WayD):RtD:=if r.far then ⟨true,r.key,4,d.cost,r.cost,d.hops⟩ else ⟨true,r.key,3,r.cost+d.cost,0,d.hops⟩
theorem Zph (r:RecD)(d:WayD):wOf (offQ r d)=⟨r.key,Zht r.far r.cost d.cost,d.hops⟩:=by
 unfold offQ Zht wOf;cases r.far <;> simp
theorem Zpg (r:RecD)(d:WayD):(offQ r d).hops=d.hops:=by unfold offQ;split <;> rfl
theorem Zsa {d:WayD}(hs:ZaA xs=true)(hr:r∈xs)(hd:ZdS ds)(he:ZdS es)(hk:r.kind=3)(hc:r.cost<60000)(ho:Zcj ds es src r.owner=some d):OffR (offQ r d):=by
 have h1:=Zet hs hr hk hc;have h2:=Zdi hd he ho;unfold offQ;cases hf:r.far
 ·rw [if_neg (by simp)];exact⟨rfl,.inl ⟨rfl,rfl⟩,by show 0<=r.cost+d.cost/\r.cost+d.cost<=61000;omega,by simp,h2.2.1,h2.2.2,h1.1⟩
 ·rw [if_pos rfl];exact⟨rfl,.inr rfl,by show 0<=d.cost/\d.cost<=61000;omega,by show 0<=r.cost/\r.cost<=1000;omega,h2.2.1,h2.2.2,h1.1⟩
theorem Zpi (r:RecD)(d:WayD)(na ua:Option Addr)(nn nc un uc:Nat)(w:World)(hr:0<=r.cost/\r.cost<=60000)(hd:0<=d.cost/\d.cost<=60000):
  Calls Tryz.prog 216 #[.agg (recC r (.slice na nn nc)),.agg (wayC d (.slice ua un uc))] w fun e w'=>e=.returned (.agg (rtC (offQ r d) (.slice ua un uc)))/\T_ w w':=by
 cases hf:r.far
 ·skip
  have hoq:offQ r d=⟨true,r.key,3,r.cost+d.cost,0,d.hops⟩:=by unfold offQ;rw [hf];rfl
  rw [hoq];clear hoq;unfold rtC recC wayC;rw [hf];have BB:=hide ((Zap (w:=w) (.cells #[M r.area,M r.kind,M r.owner,M r.key,M r.seq,.slice na nn nc,M r.cost,.bool false] 39) (.cells #[M d.to,M d.cost,.slice ua un uc] 193)).alloc (by simp;omega) (.cells #[.bool true,M r.key,M 3,M (r.cost+d.cost),M (0),.slice ua un uc] 54));clear hf
  go_enter Tryz.func216,Tryz.ntmps216
  go_wp2
  go_returns
  exact⟨rfl,BB⟩
 ·skip
  have hoq:offQ r d=⟨true,r.key,4,d.cost,r.cost,d.hops⟩:=by unfold offQ;rw [hf];rfl
  rw [hoq];clear hoq;unfold rtC recC wayC;rw [hf];have BB:=hide ((Zap (w:=w) (.cells #[M r.area,M r.kind,M r.owner,M r.key,M r.seq,.slice na nn nc,M r.cost,.bool true] 39) (.cells #[M d.to,M d.cost,.slice ua un uc] 193)).alloc (by simp;omega) (.cells #[.bool true,M r.key,M 4,M (d.cost),M (r.cost),.slice ua un uc] 54));clear hf
  go_enter Tryz.func216,Tryz.ntmps216
  go_wp2
  go_returns
  exact⟨rfl,BB⟩
def OffK (xs:List RecD)(ds es:List WayD)(src:Int)(k:Nat)(ys:List RtD):Prop:=∀ y,y∈ys↔∃ r∈xs.take k,r.kind=3/\r.cost<60000/\∃ d,Zcj ds es src r.owner=some d/\y=offQ r d
theorem OffK.quiet {ys:List RtD}(h:OffK xs ds es src k ys)(hr:xs[k]? = some r)(hn:r.kind=3->r.cost<60000->Zcj ds es src r.owner=none):OffK xs ds es src (k+1) ys:=by
 obtain⟨hk,e⟩:=YAD.1 hr;intro y;rw [h y,YAI hk,e];constructor
 ·rintro ⟨x,hx,ht⟩;exact⟨x,YAF.2 (.inl hx),ht⟩
 ·rintro ⟨x,hx,h1,h2,d,h3,h4⟩;rcases YAF.1 hx with h5 | h5
  ·exact ⟨x,h5,h1,h2,d,h3,h4⟩
  ·have:x=r:=by simpa using h5
   subst this;rw [hn h1 h2] at h3;cases h3
theorem OffK.more {ys:List RtD}{d:WayD}(h:OffK xs ds es src k ys)(hr:xs[k]? = some r)(h1:r.kind=3)(h2:r.cost<60000)(h3:Zcj ds es src r.owner=some d):OffK xs ds es src (k+1) (ys++[offQ r d]):=by
 obtain⟨hk,e⟩:=YAD.1 hr;intro y;rw [YAF,h y,YAI hk,e];constructor
 ·rintro (⟨x,hx,ht⟩ | h4)
  ·exact ⟨x,YAF.2 (.inl hx),ht⟩
  ·have:y=offQ r d:=by simpa using h4
   exact⟨r,YAF.2 (.inr (by simp)),h1,h2,d,h3,this⟩
 ·rintro ⟨x,hx,g1,g2,d',g3,g4⟩;rcases YAF.1 hx with h5 | h5
  ·exact .inl ⟨x,h5,g1,g2,d',g3,g4⟩
  ·have:x=r:=by simpa using h5
   subst this;rw [h3] at g3;cases g3;exact .inr (by simp [g4])
theorem Zpf {ys bs:List RtD}(h:OffK xs ds es src xs.length ys)(hb:ZcY ys bs):ZaE (Zdz xs ds es src) (bs.map wOf):=by
 unfold ZcY at hb;refine hb.congr (fun to d=>?_);constructor
 ·rintro ⟨q,hq,rfl,ht⟩;obtain⟨r,hr,h1,h2,v,h3,rfl⟩:=(h q).1 hq;rw [YAf] at hr;exact⟨ht,r,hr,h1,h2,v,h3,Zph r v⟩
 ·rintro ⟨ht,r,hr,h1,h2,v,h3,rfl⟩;refine⟨offQ r v,(h _).2 ⟨r,by rw [YAf];exact hr,h1,h2,v,h3,rfl⟩,(Zph r v).symm,?_⟩;have:=congrArg WayD.to (Zph r v);exact this.trans ht
theorem ZmQ {bs:List QP}(h:OffL bs):((ZaO bs).map wOf).map rtOf=ZaO bs:=by
 rw [List.map_map];have:∀ y∈ZaO bs,(rtOf ∘ wOf) y=y:=fun y hy=>by
  obtain⟨b,hb,rfl⟩:=YAV.1 hy;exact (h b hb).rt
 conv=>rhs;rw [<-List.map_id (ZaO bs)]
 exact List.map_congr_left this
theorem Zho {os:List QP}{p:QP}(h:OffL os)(hp:OffR p.1):OffL (os++[p]):=fun b hb=>by
 rcases YAF.1 hb with h1 | h1
 ·exact h b h1
 ·have:b=p:=by simpa using h1
  subst this;exact hp
theorem Zlv (v vc:Value)(ps:List RP)(cs:List WP)(ds es:List WayD)(hc:Zag cs=ds++es)(hi lo2 hi2:Nat)(src:Int)(w:World)(hv:RecsIn w hi v ps)(hhi:hi<=w.heap.size)(hw:WaysOwn w lo2 hi2 vc cs)(hh2:hi2<=w.heap.size)(hnw:totW cs<=1048576)(hs:ZaA (fsts ps)=true)(hgd:ZdS ds)(hge:ZdS es):
  Calls Tryz.prog 164 #[v,vc,M src] w fun e w'=>∃ x bs,e=.returned x/\OffL bs/\ZaE (Zdz (fsts ps) ds es src) ((ZaO bs).map wOf)/\RtsOwn w' w.heap.size w'.heap.size x bs/\T_ w w':=by
 obtain⟨a0,c0,rfl⟩:=Zac hv.row;obtain⟨a1,c1,rfl⟩:=Zac hw.row;have hpl:ps.length<=150:=by
  unfold ZaA at hs;simp only [YAM,YAT] at hs;have:=hs.1.1;simpa [fsts] using this
 have HOW:=hide (fun (o:Int) W (hb:T_ w W)=>Znm (.slice a1 cs.length c1) cs ds es hc o src W (fun W' hb'=>ZeF (.slice a1 cs.length c1) cs lo2 hi2 o W' ((hw.below hb hh2).below hb' (YAG hh2 hb.size)) (YAG (YAG hh2 hb.size) hb'.size) hnw) ⟨_,_,_,rfl⟩);unfold wayC at HOW;have HV:=hide hv;have HRT:=hide (fun r (hr:r∈fsts ps)=>Zet hs hr);have HGO:=hide (fun o d (h:Zcj ds es src o=some d)=>Zdi hgd hge h);have HOK:=hide (fun r d (hr:r∈fsts ps)=>Zsa (src:=src) (d:=d) hs hr hgd hge);clear hv hw hs hgd hge hc
 go_enter Tryz.func164,Tryz.ntmps164
 go_wp2
 go_loopw [14,7] (fun i o wr=>∃ (k:Nat) (x:Value) (os:List QP),k<=ps.length/\i=M (k:Int)/\o=x/\RtsOwn wr w.heap.size wr.heap.size x os/\Hid (OffK (fsts ps) ds es src k (ZaO os))/\OffL os/\os.length<=k/\T_ w wr) (fun i _ _=>ps.length-(intOf i).toNat)
 case atStart=>exact ⟨0,_,[],by omega,rfl,rfl,⟨YAX _ _ _ _,fun k hk=>by simp [Value.ownBlock] at hk,by simp,by simp⟩,hide (fun y=>by simp [ZaO]),fun b hb=>by simp at hb,by simp,YAC _ _⟩
 case round=>
  obtain⟨k,x,os,hk,rfl,rfl,hown,HM,hol,hql,BW⟩:=hrel;obtain⟨xa,xc,rfl⟩:=Zac hown.row;have hsz:=BW.size;by_cases hlt:k<ps.length
  ·obtain ⟨p,hp⟩:∃ p,ps[k]? = some p:=⟨ps[k],YAA hlt⟩;obtain⟨bb,off,cap',hve,hbb,c0,c1,c2,c3,c4,c5,c6,c7,hnr⟩:=HV.out.at.cells k p hp;cases hve;obtain⟨pa,pc,hpn⟩:=ZaG.shape hnr;rw [hpn] at c5;replace c0:=(BW.cell (YAB hbb hhi)).trans c0;replace c1:=(BW.cell (YAB hbb hhi)).trans c1;replace c2:=(BW.cell (YAB hbb hhi)).trans c2;replace c3:=(BW.cell (YAB hbb hhi)).trans c3;replace c4:=(BW.cell (YAB hbb hhi)).trans c4;replace c5:=(BW.cell (YAB hbb hhi)).trans c5;replace c6:=(BW.cell (YAB hbb hhi)).trans c6;replace c7:=(BW.cell (YAB hbb hhi)).trans c7;have HPP:=hide (Zbq hp);have HPM:=hide (YAH (Zbq hp));have BAL:T_ wr (wr.alloc (.cells #[M p.1.area,M p.1.kind,M p.1.owner,M p.1.key,M p.1.seq,.slice pa p.1.near.length pc,M p.1.cost,.bool p.1.far] 39)):=(YAC _ _).alloc (YA _) _;have hxl:=YAE wr (.cells #[M p.1.area,M p.1.kind,M p.1.owner,M p.1.key,M p.1.seq,.slice pa p.1.near.length pc,M p.1.cost,.bool p.1.far] 39);obtain⟨wl,hwl⟩:∃ W,W=(wr.alloc (.cells #[M p.1.area,M p.1.kind,M p.1.owner,M p.1.key,M p.1.seq,.slice pa p.1.near.length pc,M p.1.cost,.bool p.1.far] 39)):=⟨_,rfl⟩;rw [<-hwl] at BAL hxl;have hki:(0:Int)<=(k:Int):=by omega
   have hkj:(k:Int)<(ps.length:Int):=by omega
   have HOL:=hide hol;have HOW2:=hide hown;have HBW:=hide BW;clear hp hnr hpn hol hown BW;by_cases hK:p.1.kind=3
   case neg=>
    have hd:(p.1.kind != 3)=true:=by simpa using hK
    have HhK:=hide hK;clear hK;have HN:=hide (show OffK (fsts ps) ds es src (k+1) (ZaO os) from HM.out.quiet HPP (fun h _=>absurd h HhK));have N1:=hide ((HOW2.out.below BAL (YA _)).wide (YA _) BAL.size);have N2:=hide (HBW.out.trans (BAL.mono hsz));rw [hwl] at N1 N2;clear HM HPP HPM HOW BAL hwl hxl HRT HGO HOK HOW2 HBW;go_wp2;go_roundw
    case rel=>exact ⟨k+1,_,os,by omega,by go_num,rfl,N1,HN,HOL,by omega,N2⟩
    case measure=>exact MS_
   have hdK:(p.1.kind != 3)=false:=by simpa using hK
   have HhK:=hide hK;clear hK;by_cases hC:p.1.cost<60000
   case neg=>
    have hd:p.1.cost>=60000:=by omega
    have HhC:=hide hC;clear hC;have HN:=hide (show OffK (fsts ps) ds es src (k+1) (ZaO os) from HM.out.quiet HPP (fun _ h=>absurd h HhC));have N1:=hide ((HOW2.out.below BAL (YA _)).wide (YA _) BAL.size);have N2:=hide (HBW.out.trans (BAL.mono hsz));rw [hwl] at N1 N2;clear HM HPP HPM HOW BAL hwl hxl HRT HGO HOK HOW2 HBW;go_wp2;go_roundw
    case rel=>exact ⟨k+1,_,os,by omega,by go_num,rfl,N1,HN,HOL,by omega,N2⟩
    case measure=>exact MS_
   have hdC:¬p.1.cost>=60000:=by omega
   have hrb:=HRT.out p.1 HPM HhK hC;have HhC:=hide hC;clear hC;have hfd:=ZmI ds es src p.1.owner;have HW:=HOW.out p.1.owner wl (HBW.out.trans (BAL.mono hsz));obtain⟨D,hD⟩:∃ D,D=ownD ds es src p.1.owner:=⟨_,rfl⟩;obtain⟨FB,hFB⟩:∃ F,F=ownB ds es src p.1.owner:=⟨_,rfl⟩;rw [<-hD, <-hFB] at HW hfd;have hx2:=Zaa hxl 2;simp at hx2;rw [hwl] at hx2;have HXL:=hide hxl;have HWW:=hide HW;have HFD:=hide hfd;have HBL:=hide BAL;clear HW hfd hD hFB hxl BAL HOW
   go_wp2_with fail
   rw [<-hwl];clear hwl hx2;refine HWW.out.mono ?_;rintro e w3 ⟨du,rfl,hdu,b3⟩;obtain⟨da,dc,rfl⟩:=Zac hdu;have hb3:=b3.size;have hbl:=HBL.out.size;have hxl3:=(b3.block _ (Zab HXL)).trans HXL;have B3:T_ wr w3:=HBL.out.trans (b3.mono hbl);have BA:T_ w3 (w3.alloc (.cells #[M D.to,M D.cost,.slice da D.hops.length dc] 193)):=(YAC _ _).alloc (YA _) _;have B4:T_ wr (w3.alloc (.cells #[M D.to,M D.cost,.slice da D.hops.length dc] 193)):=B3.trans (BA.mono (by omega));cases FB
   ·have HN:=hide (show OffK (fsts ps) ds es src (k+1) (ZaO os) from HM.out.quiet HPP (fun _ _=>by
     rcases HFD.out with ⟨h1,_⟩ | ⟨_,h2,_⟩
     ·cases h1
     ·exact h2))
    have N1:=hide ((HOW2.out.below B4 (YA _)).wide (YA _) B4.size);have N2:=hide (HBW.out.trans (B4.mono hsz));clear HM HPP HPM HBL B3 B4 BA HRT HGO HOK HOW2 HBW HFD hdu b3 hxl3 HXL HWW;go_wp2;go_roundw
    case rel=>exact ⟨k+1,_,os,by omega,by go_num,rfl,N1,HN,HOL,by omega,N2⟩
    case measure=>exact MS_
   have hfound:Zcj ds es src p.1.owner=some D:=by
    rcases HFD.out with ⟨_,h2⟩ | ⟨h1,_⟩
    ·exact h2
    ·cases h1
   have hDg:=HGO.out p.1.owner D hfound;have HN:=hide (HM.out.more HPP HhK HhC hfound);have HNO:=hide (HOK p.1 D HPM HhK HhC hfound);have HOF:=hide (fun W=>Zpi p.1 D pa da p.1.near.length pc D.hops.length dc W (by omega) hDg.1);unfold recC wayC at HOF;have hxl4:=(BA.block _ (Zab hxl3)).trans hxl3;have hx4:=YAE w3 (.cells #[M D.to,M D.cost,.slice da D.hops.length dc] 193);have r0:=Zaa hxl4 0;have r1:=Zaa hxl4 1;have r2:=Zaa hxl4 2;have r3:=Zaa hxl4 3;have r4:=Zaa hxl4 4;have r5:=Zaa hxl4 5;have r6:=Zaa hxl4 6;have r7:=Zaa hxl4 7;have d0:=Zaa hx4 0;have d1:=Zaa hx4 1;have d2:=Zaa hx4 2;simp only [YAN,YAK,YAJ] at r0 r1 r2 r3 r4 r5 r6 r7 d0 d1 d2;have HB4:=hide B4;have HDU:=hide (hdu.alloc (.cells #[M D.to,M D.cost,.slice da D.hops.length dc] 193));have hwls:wr.heap.size<wl.heap.size:=Zab HXL;clear HM HPP HPM HBL B3 B4 BA HRT HGO HOK HFD hdu b3 hxl3 hxl4 hx4 HXL HWW hfound hDg
   go_wp2_with fail
   refine (HOF _).mono ?_;rintro e w5 ⟨rfl,b5⟩;have B5:T_ wr w5:=HB4.out.trans (b5.mono HB4.out.size);have hd5:=Zad HDU b5 (YA _);obtain⟨Q,hQ⟩:∃ Q,Q=offQ p.1 D:=⟨_,rfl⟩;have hQh:Q.hops=D.hops:=by rw [hQ];exact Zpg _ _
   rw [<-hQ] at HN HNO |-;rw [<-hQh] at hd5 |-;have HQO:=hide (show Zbu w5 wr.heap.size w5.heap.size (Q,.slice da Q.hops.length dc) from ⟨Zaf hd5 (by omega),fun j hj=>(hd5.lt j hj).2⟩);have HB5:=hide B5;have hw5:=B5.size;clear hQ hQh hd5 HDU HB4 b5 HOF B5;unfold rtC;have BZ:=hide (HB5.out.alloc hw5 (.cells (encQ (Q,.slice da Q.hops.length dc)).toArray 54));have OW:=hide ((Zad HOW2.out.row HB5 (YA _)).alloc (.cells (encQ (Q,.slice da Q.hops.length dc)).toArray 54))
   go_wp2_with (first
    | (at_builtin;refine ZaR ZbF (by omega) (by omega) _ rfl _ _ 51 rfl w.heap.size 54 Tryz.underlying51 (.agg (rtC ZbI (.slice none 0 0))) rfl Tryz.infoRoute _ os (Q,.slice da Q.hops.length dc) (ZcL _ _ _ _) rfl OW (U w5.heap.size 0) 1 rfl (Zar (cs:=encQ (Q,.slice da Q.hops.length dc))) (by omega) (by simp;omega) ?_))
   intro v' w6 hown' hgrow hat;have NW:=hide (HOW2.out.push BZ (((HQO.out.keep (W':=w5.alloc (.cells (encQ (Q,.slice da Q.hops.length dc)).toArray 54)) (fun j _ h2 h3=>((YAC w5.heap.size w5).alloc (YA _) (.cells (encQ (Q,.slice da Q.hops.length dc)).toArray 54)).block j h3)).wide hsz (by simp))) (fun b hb j hj e=>by
    have h1:=(HOW2.out.nears b hb).2 j hj;have h2:=(HQO.out.1.lt j e).1;omega) (by simpa using hown') hgrow)
   have N2:=hide ((HBW.out.trans (BZ.out.mono hsz)).grown hgrow (by have:=BZ.out.size;omega) (fun j hj=>(HOW2.out.row.lt j hj).1));have N3:=hide (show OffK (fsts ps) ds es src (k+1) (ZaO (os++[(Q,.slice da Q.hops.length dc)])) by rw [Za1];exact HN);have N4:=hide (Zho (p:=(Q,.slice da Q.hops.length dc)) HOL HNO);obtain⟨va,vc,rfl⟩:=Zac hown';clear hown' hgrow hat OW BZ HOW2 HQO HB5 HN HNO HBW HOL;go_wp2;go_roundw
   case rel=>exact ⟨k+1,_,os++[(Q,.slice da Q.hops.length dc)],by omega,by go_num,rfl,NW.out,N3,N4.out,by simp;omega,N2.out⟩
   case measure=>exact MS_
  ·have hkn:¬(k:Int)<(ps.length:Int):=by omega
   have HE:=hide (show OffK (fsts ps) ds es src (fsts ps).length (ZaO os) by have h:=HM.out;rw [show k=(fsts ps).length by simp [fsts];omega] at h;exact h);have HBE:=hide (Zqd (.slice xa os.length xc) os w.heap.size wr hown hsz hol (by omega));have HBW:=hide BW;clear hown HM BW hol
   go_wp2_with fail
   refine HBE.out.mono ?_;rintro e w3 ⟨y,bs,rfl,hbq,hol3,how3,b3⟩;obtain⟨ya,yc,rfl⟩:=Zac how3.row;have N1:=hide (Zpf HE hbq);have N2:=hide how3;have N3:=hide (HBW.out.trans b3);have N4:=hide hol3;clear hbq how3 b3 hol3 HBE HE;go_wp2;go_ret
   first
    | exact ⟨_,bs,rfl,N4,N1,N2,N3⟩
    | exact ⟨_,rfl,bs,N4,N1,N2,N3⟩
def keyB (area owner key:Int):RecD:=⟨area,2,owner,key,0,[],0,false⟩
def ZkU (xs:List RecD)(r:RecD)(i:Nat):Prop:=i<=xs.length/\(∀ t,t<i->ltAt xs r t)/\∀ t,i<=t->t<xs.length->¬ltAt xs r t
theorem ZpC (v:Value)(ps:List RP)(hi:Nat)(area owner:Int)(w:World)(hv:RecsIn w hi v ps)(hhi:hi<=w.heap.size)(hn:tot ps<=1048576)(hasc:Asc (fsts ps)):
  Calls Tryz.prog 157 #[v,M area,M owner] w fun e w'=>∃ i j:Nat,e=.returned (.tuple #[M (i:Int),M (j:Int)])/\ZkU (fsts ps) (keyB area owner 0) i/\ZkU (fsts ps) (keyB area owner 7) j/\T_ w w':=by
 have hfl:(fsts ps).length=ps.length:=by simp [fsts]
 have HS:=hide (fun W (hb:T_ w W) (key:Int)=>by
  have h:=ZlP v ps hi (keyB area owner key,.slice none 0 0) W (hv.below hb hhi) (YAG hhi hb.size) hn ⟨YAX _ _ _ _,by intro k hk;simp [Value.ownBlock] at hk⟩ (fun s t h1 h2=>ZiO hasc _ s t h1 (by rw [hfl];exact h2));exact h.mono (R':=fun e w'=>∃ (i:Nat) (f:Bool),e=.returned (.tuple #[M (i:Int),.bool f])/\ZkU (fsts ps) (keyB area owner key) i/\T_ W w') (fun e w' ⟨i,f,h1,h2,h3,h4,_,h5⟩=>⟨i,f,h1,⟨by rw [hfl];exact h2,h3,fun t a b=>h4 t a (by rw [<-hfl];exact b)⟩,h5⟩))
 unfold recC at HS;obtain⟨a,c,rfl⟩:=Zac hv.row;clear hv hn hasc hfl;have H0:=hide (fun W hb=>HS W hb 0);have H7:=hide (fun W hb=>HS W hb 7);clear HS
 go_enter Tryz.func157,Tryz.ntmps157
 go_wp2_with fail
 refine (H0 _ (YAC _ _)).mono ?_;rintro e w1 ⟨i,f,rfl,hc0,b1⟩;have C0:=hide hc0;clear hc0
 go_wp2_with fail
 refine (H7 _ b1).mono ?_;rintro e w2 ⟨j,f2,rfl,hc7,b2⟩;have C7:=hide hc7;have B2:T_ w w2:=b1.trans (b2.mono b1.size);clear hc7 b1 b2;go_wp2;go_ret2;exact⟨i,j,rfl,C0,C7,B2⟩
theorem ZmX (f g:RecD->Bool)(hfg:∀ p,f p=true->g p=false)(xs:List RecD):totD (xs.filter f)+totD (xs.filter g)<=totD xs:=by
 induction xs with
 | nil=>simp [totD]
 | cons x xs ih=>
  have h:=hfg x;rw [List.filter_cons,List.filter_cons,Zdm];cases hf:f x <;> cases hg:g x <;> simp_all [Zdm] <;> omega
theorem Zrs (xs:List RecD)(r:RecD):totD (putD xs r)<=totD xs+(1+r.near.length):=by
 unfold putD;rw [ZcI,ZcI];have h:=ZmX (fun x=>Zam x r) (fun x=>Zam r x) (fun x hx=>ZdV hx) xs;have h1:totD [r]=1+r.near.length:=by simp [totD]
 omega
theorem ZhM :∀ (ts xs:List RecD),totD (ts.foldl putD xs)<=totD xs+totD ts
 | [],xs=>by simp [totD]
 | t::ts,xs=>by
  rw [List.foldl_cons];have h1:=ZhM ts (putD xs t);have h2:=Zrs xs t;rw [Zdm];omega
structure PASt (w wr:World) (lo:Nat) (v x:Value) (ps ts qs:List RP) (k:Nat):Prop where
 eq:fsts qs=(fsts (ts.take k)).foldl putD (fsts ps)
 own:RecsOwn wr lo wr.heap.size x qs
 near:∀ q∈qs,(∃ p∈ps,q.2=p.2)\/∃ t∈ts.take k,q.2=t.2
 keep:∀ j,j<w.heap.size->v.ownBlock≠some j->wr.heap[j]? = w.heap[j]?
 row:∀ j,x.ownBlock=some j->v.ownBlock=some j\/w.heap.size<=j
 bel:Below lo w wr
theorem PASt.step {wr w2:World}{x x':Value}{ps ts qs qs':List RP}{l:RP}(h:PASt w wr lo v x ps ts qs k)(hl:ts[k]? = some l)(hlo:lo<=w.heap.size)
  (he:fsts qs'=putD (fsts qs) l.1) (ho:RecsOwn w2 lo w2.heap.size x' qs') (hb:Below lo (wr.alloc o) w2) (hp:PutFine x qs l (wr.alloc o) w2 x' qs'):PASt w w2 lo v x' ps ts qs' (k+1) where
 eq:=by
  have e:fsts (ts.take (k+1))=fsts (ts.take k)++[l.1]:=map_take hl;rw [he,h.eq,e,List.foldl_append];rfl
 own:=ho
 near:=fun q hq=>by
  obtain⟨hk,e⟩:=YAD.1 hl;rcases hp.near q hq with h1 | h1
  ·rcases h.near q h1 with h2 | ⟨t,ht,h3⟩
   ·exact .inl h2
   ·exact .inr ⟨t,by rw [YAI hk];exact List.mem_append_left _ ht,h3⟩
  ·exact .inr ⟨l,by rw [YAI hk,e];simp,h1⟩
 keep:=fun j hj hv=>by
  have hs:=h.bel.size;have hx:x.ownBlock≠some j:=fun e=>by
   rcases h.row j e with h1 | h1
   ·exact hv h1
   ·omega
  rw [hp.keep j (by simp;omega) hx,YAL _ _ _ (by omega),h.keep j hj hv]
 row:=fun j hj=>by
  have hs:=h.bel.size;rcases hp.row j hj with h1 | h1
  ·exact h.row j h1
  ·exact .inr (by simp at h1;omega)
 bel:=(h.bel.alloc (by have:=h.bel.size;omega) _).trans hb
theorem ZpY (xs:List RecD)(k:Nat):totD (xs.take k)<=totD xs:=by
 have e:xs=xs.take k++xs.drop k:=(YAa k xs).symm;have h2:totD xs=totD (xs.take k)+totD (xs.drop k):=by
  conv=>lhs;rw [e]
  rw [ZcI]
 omega
theorem ZnK (v u:Value)(ps ts:List RP)(lo:Nat)(w:World)(hv:RecsOwn w lo w.heap.size v ps)(hu:ZbG w u ts w.heap.size)(hlo:lo<=w.heap.size)(hn:tot ps+tot ts<=1048576)(hasc:Asc (fsts ps))(hnr:∀ t∈ts,ZaH w lo w.heap.size t)(hap:∀ p∈ps,∀ t∈ts,ZeS p t)(hta:ts.Pairwise ZeS)(hne:∀ j,v.ownBlock=some j->u.ownBlock≠some j):
  Calls Tryz.prog 57 #[v,u] w fun e w'=>∃ x qs,e=.returned x/\PASt w w' lo v x ps ts qs ts.length:=by
 have hnl:=Zby ts;obtain⟨a,cap,rfl⟩:=hu.shape;have HU:=hide hu;have HV:=hide hv;have HNR:=hide hnr;have HAP:=hide hap;have HTA:=hide hta;have HNE:=hide hne;have HAS:=hide hasc;have ST0:=hide (show PASt w w lo v v ps ts ps 0 from ⟨by simp [fsts],hv,fun q hq=>.inl ⟨q,hq,rfl⟩,fun _ _ _=>rfl,fun j h=>.inl h,YAC _ _⟩);clear hu hnr hap hta hne hasc hv
 go_enter Tryz.func57,Tryz.ntmps57
 go_wp2
 go_loopw [9,0] (fun i o wr=>∃ (k:Nat) (x:Value) (qs:List RP),k<=ts.length/\i=M k/\o=x/\Hid (PASt w wr lo v x ps ts qs k)) (fun i _ _=>ts.length-(intOf i).toNat)
 case atStart=>exact ⟨0,v,ps,by omega,rfl,rfl,ST0⟩
 case round=>
  obtain⟨k,x,qs,hk,rfl,rfl,ST⟩:=hrel;have hsz:=ST.out.bel.size;obtain⟨xa,xc,hxe⟩:=Zac ST.out.own.row;by_cases hlt:k<ts.length
  ·obtain ⟨l,hl⟩:∃ l,ts[k]? = some l:=⟨ts[k],YAA hlt⟩;have hlm:=YAH hl;obtain⟨b,off,cap',hve,hbb,c0,c1,c2,c3,c4,c5,c6,c7,hnr⟩:=HU.out.cells k l hl;cases hve;have hkb:wr.heap[b]? = w.heap[b]? := ST.out.keep b hbb (fun e=>HNE b e rfl);have hcell:∀ j,wr.cell? (U b j)=w.cell? (U b j):=fun j=>by simp only [World.cell?,hkb]
   rw [<-hcell] at c0 c1 c2 c3 c4 c5 c6 c7;obtain⟨pa,pc,hpn⟩:=ZaG.shape hnr;rw [hpn] at c5;have hbr:¬b=wr.heap.size:=by omega
   have hki:(0:Int)<=(k:Int):=by omega
   have hkj:(k:Int)<(ts.length:Int):=by omega
   have hal:=(ST.out.own.below ((YAC _ _).alloc (YA _) (.cells #[M l.1.area,M l.1.kind,M l.1.owner,M l.1.key,M l.1.seq,.slice pa l.1.near.length pc,M l.1.cost,.bool l.1.far] 39)) (YA _)).wide (YA _) (show wr.heap.size<=(wr.alloc (.cells #[M l.1.area,M l.1.kind,M l.1.owner,M l.1.key,M l.1.seq,.slice pa l.1.near.length pc,M l.1.cost,.bool l.1.far] 39)).heap.size by simp);have hnl2:ZaH (wr.alloc (.cells #[M l.1.area,M l.1.kind,M l.1.owner,M l.1.key,M l.1.seq,.slice pa l.1.near.length pc,M l.1.cost,.bool l.1.far] 39)) lo (wr.alloc (.cells #[M l.1.area,M l.1.kind,M l.1.owner,M l.1.key,M l.1.seq,.slice pa l.1.near.length pc,M l.1.cost,.bool l.1.far] 39)).heap.size l:=by
    have h0:=HNR.out l hlm;refine⟨Zal h0.1 (fun j hj=>?_),fun j hj=>by have:=h0.2 j hj;simp;omega⟩;have hjw:=h0.2 j hj;rw [YAL _ _ _ (by omega),ST.out.keep j hjw (fun e=>Zdf h0 HV.out.row j hj e.symm)]
   have hapl:∀ q∈qs,ZeS q l:=fun q hq=>by
    rcases ST.out.near q hq with ⟨p,hp,e⟩ | ⟨t,ht,e⟩
    ·intro j hj;rw [e] at hj;exact HAP p hp l hlm j hj
    ·intro j hj;rw [e] at hj;obtain⟨i,hi⟩:=List.getElem?_of_mem ht;have hik:i<k:=by have:=(YAD.1 hi).1;simp at this;omega
     rw [YAo hik] at hi;obtain⟨h1,e1⟩:=YAD.1 hi;obtain⟨h2,e2⟩:=YAD.1 hl;have:=YAb.1 HTA i k h1 h2 hik;rw [e1,e2] at this;exact this j hj
   have htq:tot qs<=1048576:=by
    rw [ZjC,ST.out.eq];have h1:=ZhM (fsts (ts.take k)) (fsts ps);have h2:=ZpY (fsts ts) k;rw [show fsts (ts.take k)=(fsts ts).take k by simp [fsts]] at *;rw [ZjC,ZjC] at hn;omega
   have hascq:Asc (fsts qs):=by rw [ST.out.eq];exact ZeB _ _ HAS
   have HC:=hide (ZoY _ qs lo l _ hal (by simp;omega) htq hascq hnl2 hapl);unfold recC at HC;rw [hpn] at HC;have HL:=hide hl;clear hcell hkb hal hnl2 hapl htq hascq hl hnr hpn hlm;subst hxe
   go_wp2_with fail
   refine HC.out.mono ?_;rintro e w2 ⟨x',qs',rfl,he,ho,hb,hp⟩;have ST2:=hide (ST.out.step HL hlo he ho hb hp);obtain⟨xa2,xc2,rfl⟩:=Zac ho.row;clear he ho hb hp c0 c1 c2 c3 c4 c5 c6 c7;go_wp2;go_roundw
   case rel=>exact ⟨k+1,_,qs',by omega,by go_num,rfl,ST2⟩
   case measure=>exact MS_
  ·have KN:=hide (show k=ts.length by omega);subst hxe;go_wp2;go_ret;have h1:=ST.out;rw [KN.out] at h1;exact⟨_,qs,rfl,h1⟩
theorem Zhr {α:Type}{ord:α->α->Int}(tr:∀ x y z,ord x y<0->ord y z<0->ord x z<0){ls:List α}(h:ascB ord ls=true):ls.Pairwise (fun x y=>ord x y<0):=by
 have step:∀ k (hk:k+1<ls.length),ord (ls[k]'(by omega)) ls[k+1]<0:=fun k hk=>by
  have h1:Zcm ord ls (k+1)=true:=List.all_eq_true.1 h (k+1) (List.mem_range.2 hk);rw [Zb9 (YAA (by omega)) (YAA hk)] at h1;exact of_decide_eq_true h1
 have all:∀ (d i:Nat) (hd:i+d+1<ls.length),ord (ls[i]'(by omega)) ls[i+d+1]<0:=by
  intro d
  induction d with
  | zero=>intro i hd;exact step i hd
  | succ d ih=>
   intro i hd;exact tr _ _ _ (ih i (by omega)) (step (i+d+1) (by omega))
 rw [YAb];intro i j hi hj hij;have:=all (j-i-1) i (by omega);have e:i+(j-i-1)+1=j:=by omega
 simpa [e] using this
theorem Zpm (l m:Lk):ordL l m<0↔l.a<m.a\/l.a=m.a/\(l.b<m.b\/l.b=m.b/\l.r<m.r):=by
 unfold ordL orN orN orN orN cmpN
 split <;> (try split) <;> (try split) <;> (try split) <;> (try split) <;> (try split) <;> (try split) <;> omega
theorem ZlL (l m:Th):ordT l m<0↔l.k<m.k\/l.k=m.k/\l.o<m.o:=by
 unfold ordT orN orN orN cmpN
 split <;> (try split) <;> (try split) <;> (try split) <;> (try split) <;> (try split) <;> omega
theorem Znt {n:Int}{ls:List Lk}(h:Zco n ls=true):ls.Pairwise (fun x y=>ordL x y<0):=by
 unfold Zco at h;simp only [YAM] at h;exact Zhr (fun x y z h1 h2=>by rw [Zpm] at *;omega) h.2
theorem ZlX {n:Int}{ts:List Th}(h:ZbH n ts=true):ts.Pairwise (fun x y=>ordT x y<0):=by
 unfold ZbH at h;simp only [YAM] at h;exact Zhr (fun x y z h1 h2=>by rw [ZlL] at *;omega) h.2
theorem ZfB {y:RecD}(h:x.area≠y.area\/x.kind≠y.kind\/x.owner≠y.owner\/x.key≠y.key):difK x y:=by
 unfold difK;cases e:Zat x y with
 | false=>rfl
 | true=>
  have:=(Zhb x y).1 e;rcases h with h | h | h | h
  ·exact absurd this.1 h
  ·exact absurd this.2.1 h
  ·exact absurd this.2.2.1 h
  ·exact absurd this.2.2.2 h
def TyK (W W':World):Prop:=∀ (k:Nat) (cs:Array Value) (t:TypeId) (fr:Nat × Nat),W.heap[k]? = some (.cells cs t fr)->t≠54->W'.heap[k]? = W.heap[k]?
theorem TyK.refl (W:World):TyK W W:=fun _ _ _ _ _ _=>rfl
theorem TyK.trans {A B C:World}(h:TyK A B)(k:TyK B C):TyK A C:=fun j cs t fr h1 h2=>by
 have e:=h j cs t fr h1 h2;rw [<-e];exact k j cs t fr (e.trans h1) h2
theorem TyK.below (h:T_ W W'):TyK W W':=fun j _ _ _ h1 _=>h.block j (Zab h1)
theorem TyK.grown {base n:Nat}{xs:List Value}(h:W.ownsRow base 54 6 v n xs)(hg:W.grownBy W' v.ownBlock):TyK W W':=fun j cs t fr h1 h2=>by
 refine hg.block j (Zab h1) (fun e=>?_);rcases h.2 with ⟨e0,_⟩ | ⟨g,cap,cur,e0,_,hh,_⟩
 ·rw [e0] at e;simp [Value.ownBlock] at e
 ·rw [e0] at e;simp [Value.ownBlock] at e;subst e;rw [hh] at h1;injection h1 with h1;injection h1 with _ h3 _;exact h2 h3.symm
theorem TyK.ways (h:TyK W W'){ps:List WP}(hw:WaysOwn W lo hi v ps):WaysOwn W' lo hi v ps:=hw.typed (by decide) (by decide) h
theorem TyK.hop (h:TyK W W'){q:QP}(hq:Zbu W lo hi q):Zbu W' lo hi q:=⟨ZdN hq.1 (by decide) h,hq.2⟩
theorem Zg4 {r:Option Nat}(h:W.drew.grownBy W' r):W.grownBy W' r:=⟨h.os,h.tape,h.output,h.size,h.block⟩
theorem Znh :∃ i,Tryz.prog.info? 54=some i/\i.zero=some (.agg (rtC ZbI (.slice none 0 0)))/\i.size=6/\i.bytes=64:=by
 have hi:=Tryz.infoRoute;cases hf:Tryz.prog.info? 54 with
 | none=>rw [hf] at hi;cases hi
 | some i0=>
  rw [hf] at hi;simp only [Option.map_some,Option.some.injEq,Prod.mk.injEq] at hi;exact⟨i0,rfl,hi.1,hi.2.1,hi.2.2⟩
theorem ZiG {ps:List WP}{p:WP}(h:WaysOwn W lo hi v ps)(hp:ps[k]? = some p):∃ g cap,v=.slice (some (U g 0)) ps.length cap/\g<W.heap.size/\W.cell? (U g (k*3))=some (M p.1.to)/\W.cell? (U g (k*3+1))=some (M p.1.cost)/\W.cell? (U g (k*3+2))=some p.2/\∃ cs,W.heap[g]? = some (.cells cs 193):=by
 obtain⟨hk,_⟩:=YAD.1 hp;rcases h.row.2 with ⟨_,e0⟩ | ⟨g,cap,cur,e0,hb,hg,hnn,hm,hs,ht⟩
 ·omega
 ·have hc:∀ r,r<3->W.cell? (U g (k*3+r))=(encW p)[r]? := fun r hr=>by
   have h1:=Zca Zbj ps k r p hp hr;rw [<-ht,List.getElem?_take,if_pos (by omega),Array.getElem?_toList] at h1;rw [<-h1];simp [World.cell?,hg]
  exact⟨g,cap,e0,Zab hg,hc 0 (by omega),hc 1 (by omega),hc 2 (by omega),cur,hg⟩
theorem ZkL {key:Int}{far:Bool}{q:RtD}{S:WayD->Prop}(hk:1<=key/\key<=9)(h:ThIn key far q)(hb:ZaJ key S (some ⟨key,Zbx far q.far q.cost,q.hops⟩))(hS:∀ w,S w->GoodT w/\w.to=key):OffR q/\wOf q=⟨key,Zbx far q.far q.cost,q.hops⟩:=by
 have h6:=hb.hop6 (fun w hw=>(hS w hw).1.hop6);refine⟨⟨h.thing,?_,h.cost,⟨h.far.1,h.far.2.1⟩,hb.2.2.2.1,h6,by rw [h.to];exact hk⟩,?_⟩
 ·have h1:=h.kind;cases far
  ·exact .inl ⟨by simpa using h1,h.far.2.2 rfl⟩
  ·exact .inr (by simpa using h1)
 ·have h1:=h.kind;unfold wOf Zbx;rw [h.to];cases far
  ·have h3:q.kind=3:=by simpa using h1
   rw [h3];simp
  ·have h4:q.kind=4:=by simpa using h1
   rw [h4];simp
def Zp5 (W:World)(lo:Nat)(ts:List QP):Prop:=(∀ q∈ts,Zbu W lo W.heap.size q)/\ts.Pairwise ZdB
theorem ZlV (v u:Value)(ps:List RP)(al:List Int)(hi:Nat)(border:Bool)(src:Int)(w:World)(hv:RecsIn w hi v ps)(ha:ZaI w u al hi)(hhi:hi<=w.heap.size)(hn:tot ps<=1048576)(hal:al.length<=1048576)(hs:ZaA (fsts ps)=true):
  Calls Tryz.prog 120 #[v,u,.bool border,M src] w fun e w'=>∃ x qs,e=.returned x/\ZcZ (fsts ps) al border src (ZaO qs)/\RtsOwn w' w.heap.size w'.heap.size x qs/\T_ w w':=by
 obtain⟨i0,hi0,hz0,hs0,hb0⟩:=Znh;have HI0:=hide hi0;have HZ0:=hide hz0;have HS0:=hide hs0;have HB0:=hide hb0;clear hi0 hz0 hs0 hb0;obtain⟨a1,c1,rfl⟩:=Zac hv.row;obtain⟨a2,c2,rfl⟩:=ha.shape;have LIT:=YAe (base:=w.heap.size) (e:=54) (size:=6) w #[] 0 (YA _) (by unfold maxLen;omega) (by simp);have B0:T_ w (w.alloc (.cells #[] 54)):=(YAC _ _).alloc (YA _) _;obtain⟨w0,hw0⟩:∃ W,W=w.alloc (.cells #[] 54):=⟨_,rfl⟩;rw [<-hw0] at LIT B0;have HWI:=hide (Zfs (.slice a1 ps.length c1) (.slice a2 al.length c2) ps al hi src w0 (hv.below B0 hhi) (Zaw.later ha B0 hhi) (YAG hhi B0.size) hn hal);have HBY:=hide (fun W (hb:T_ w W)=>ZhC (.slice a1 ps.length c1) (.slice a2 al.length c2) ps al hi border src W (hv.below hb hhi) (Zaw.later ha hb hhi) (YAG hhi hb.size) hn hal);have HSK:=hide (fun W (hb:T_ w W)=>Zdx (.slice a1 ps.length c1) ps W hn (ZbG.more ((hv.below hb hhi).at) (YAG hhi hb.size)));rw [hs] at HSK;have HTH:=hide (fun uw ub ws bs lo1 hi1 lo2 hi2 key far W (hb:T_ w W) hw hh1 hnw hu hh2 hnb hgd hge=>ZlW (.slice a1 ps.length c1) uw ub ps ws bs hi lo1 hi1 lo2 hi2 key src far W (hv.below hb hhi) (YAG hhi hb.size) hn hw hh1 hnw hu hh2 hnb hs hgd hge);have HLIT:=hide LIT;have HSS:=hide hs;clear hv ha hs LIT
 go_enter Tryz.func120,Tryz.ntmps120
 go_wp2_with fail
 rw [<-hw0];clear hw0;refine HWI.out.mono ?_;rintro e w1 ⟨uw,ws,rfl,hbw,how,b1⟩;obtain⟨wsa,wsc,rfl⟩:=Zac how.row;have hb0s:=B0.size;have hb1:=b1.size;have B1:T_ w w1:=B0.trans (b1.mono hb0s);have htw:=Zeb hbw (fun to d h=>ZaS h);have HL1:=hide (Zad HLIT b1 (YA _));have HW1:=hide how;have HBW:=hide hbw;clear how hbw HWI HLIT b1
 go_wp2_with fail
 refine (HBY _ B1).mono ?_;rintro e w2 ⟨ub,bs,rfl,hbb,hob,b2⟩;obtain⟨bsa,bsc,rfl⟩:=Zac hob.row;have hb2:=b2.size;have htb:=Zeb hbb (fun to d h=>Zbc h);have B2:T_ w w2:=B1.trans (b2.mono B1.size);have HL2:=hide (Zad HL1 b2 (YA _));have HW2:=hide (HW1.out.below b2 (YA _));have HB2:=hide hob;have HBB:=hide hbb;clear hob hbb HBY HL1 HW1 b2
 go_wp2_with fail
 refine (HSK _ B2).mono ?_;rintro e w3 ⟨rfl,b3⟩;have hb3:=b3.size;have B3:T_ w w3:=B2.trans (b3.mono B2.size);have HL3:=hide (Zad HL2 b3 (YA _));have HW3:=hide (HW2.out.below b3 (by omega));have HB3:=hide (HB2.out.below b3 (YA _));have hwl:=ZeR ws;have hbl:=ZeR bs;have hws42:ws.length<=42:=YAG hwl htw;have hbs42:bs.length<=42:=YAG hbl htb;have hb13:=B1.size;have HGD:=hide (show ZdS (Zag ws) from HBW.out.good (fun to d h=>ZaS h));have HGE:=hide (show ZdS (Zag bs) from HBB.out.good (fun to d h=>Zbc h));clear HL2 HW2 HB2 HSK b3;go_wp2
 go_loopw [12,9] (fun i o wr=>∃ (k:Nat) (x:Value) (qW:List QP),k<=ws.length/\i=M (k:Int)/\o=x/\Hid (qW=ZaP 1 src (ws.take k))/\qW.length<=0+k/\wr.ownsRow w.heap.size 54 6 x qW.length (flat encQ qW)/\TyK w3 wr/\T_ w wr/\w3.heap.size<=wr.heap.size) (fun i _ _=>ws.length-(intOf i).toNat)
 case atStart=>exact ⟨0,_,_,by omega,rfl,rfl,hide (show ([]:List QP)=ZaP 1 src (ws.take 0) by simp [ZaP]),by simp,HL3,TyK.refl _,B3,YA _⟩
 case round=>
  obtain⟨k,x,qW,hk,rfl,rfl,HQ,hql,hown,hty,hnx,hsz⟩:=hrel;obtain⟨xa,xc,rfl⟩:=Zac hown;by_cases hlt:k<ws.length
  ·obtain ⟨p,hp⟩:∃ p,ws[k]? = some p:=⟨ws[k],YAA hlt⟩;have hwr:=hty.ways HW3;obtain⟨gw,cw,hve,hgw,c0,c1,c2,cs,hcs⟩:=ZiG hwr hp;cases hve;obtain⟨pa,pc,hpn⟩:=Zac (hwr.nears p (YAH hp)).1;rw [hpn] at c2;have hki:(0:Int)<=(k:Int):=by omega
   have hkj:(k:Int)<(ws.length:Int):=by omega
   have HP:=hide hp;have HPN:=hide hpn;by_cases ht:p.1.to=src
   ·have hd:(p.1.to != src)=false:=by simpa using ht
    have HN:=hide (show qW=ZaP 1 src (ws.take (k+1)) from by rw [HQ.out,Zhn HP.out ht]);have N1:=hide hown;have N2:=hide hty;have N3:=hide hnx;clear hp hpn hown hnx hty hwr ht HQ HP HPN hcs;go_wp2;go_roundw
    case rel=>exact ⟨k+1,_,qW,by omega,by go_num,rfl,HN,by omega,N1,N2,N3,hsz⟩
    case measure=>exact MS_
   ·have hd:(p.1.to != src)=true:=by simpa using ht
    have HN:=hide (show qW++[(Zb5 1 (p.1,.slice pa p.1.hops.length pc))]=ZaP 1 src (ws.take (k+1)) from by
     rw [Zgd HP.out ht,HQ.out, <-HPN.out])
    have BA:T_ wr (wr.alloc (.cells (encQ (Zb5 1 (p.1,.slice pa p.1.hops.length pc))).toArray 54)):=(YAC _ _).alloc (YA _) _;have OW:=hide (hown.alloc (.cells (encQ (Zb5 1 (p.1,.slice pa p.1.hops.length pc))).toArray 54));have HOB:=hide (fun j (hj:(Value.slice xa qW.length xc).ownBlock=some j)=>(hown.lt j hj).1);have HNE:=hide (show some gw≠(Value.slice xa qW.length xc).ownBlock from Zaq hown hcs (by decide));have HTY:=hide hty;have HNX:=hide hnx;have HBA:=hide BA;have NEWS:=hide (Zar (w:=wr) (cs:=encQ (Zb5 1 (p.1,.slice pa p.1.hops.length pc))) (t:=54));have HTG:=hide (fun W (hg:(wr.alloc (.cells (encQ (Zb5 1 (p.1,.slice pa p.1.hops.length pc))).toArray 54)).grownBy W (Value.slice xa qW.length xc).ownBlock)=>TyK.grown OW hg);have hgw2:gw<(wr.alloc (.cells (encQ (Zb5 1 (p.1,.slice pa p.1.hops.length pc))).toArray 54)).heap.size:=YAB hgw BA.size;have hwls:=hnx.size;clear hp hpn hown hnx hty hwr ht HQ HP HPN hcs BA;go_wp2
    go_region_held_law (fun W=>W.cell? (U gw (k*3))=some (M p.1.to)/\W.cell? (U gw (k*3+1))=some (M p.1.cost)/\W.cell? (U gw (k*3+2))=some (.slice pa p.1.hops.length pc)) (first | go_keep | (go_split_ands;refine⟨?_,?_,?_⟩ <;> (rw [hgrow.cell_far _ hgw2 HNE.out];assumption))) ((refine step_append_lies _ (by rfl) _ _ _ (by rfl) w.heap.size 54 i0 (.agg (rtC ZbI (.slice none 0 0))) 6 64 Tryz.underlying51 HI0 HZ0 HS0 HB0 rfl (by omega) (.slice xa qW.length xc) qW.length (flat encQ qW) (by rfl) OW (U wr.heap.size 0) 1 1 (encQ (Zb5 1 (p.1,.slice pa p.1.hops.length pc))) (by rfl) rfl NEWS (ZcL _ _ _ _) (by omega) (by unfold maxLen;omega) (by omega) (by simp;omega) (wr.heap.size+1) (by simp) ?_;intro gn cn w6 hown' hgrow hat hlt6))
    rename_i hheld
    clear hheld;have hgr:=Zg4 hgrow;have N1:=hide (show w6.ownsRow w.heap.size 54 6 (.slice (some (U gn 0)) (qW.length+1) cn) (qW++[(Zb5 1 (p.1,.slice pa p.1.hops.length pc))]).length (flat encQ (qW++[(Zb5 1 (p.1,.slice pa p.1.hops.length pc))])) by rw [ZaF,YAO];simpa [flat] using hown');have N2:=hide (HTY.out.trans ((TyK.below HBA).trans (HTG w6 hgr)));have N3:=hide ((HNX.out.trans (HBA.out.mono hwls)).grown (show (wr.alloc (.cells (encQ (Zb5 1 (p.1,.slice pa p.1.hops.length pc))).toArray 54)).grownBy w6 (Value.slice xa qW.length xc).ownBlock from hgr) (YAG hwls HBA.out.size) HOB);have hsz6:w3.heap.size<=w6.heap.size:=YAG hsz (YAG HBA.out.size (show (wr.alloc (.cells (encQ (Zb5 1 (p.1,.slice pa p.1.hops.length pc))).toArray 54)).grownBy w6 (Value.slice xa qW.length xc).ownBlock from hgr).size);clear hown' hgrow hgr hat hlt6 OW HOB HNE HTY HNX HBA NEWS HTG hgw2 c0 c1 c2;go_wp2;go_roundw
    case rel=>exact ⟨k+1,_,qW++[(Zb5 1 (p.1,.slice pa p.1.hops.length pc))],by omega,by go_num,rfl,HN,by simp;omega,N1.out,N2.out,N3.out,hsz6⟩
    case measure=>exact MS_
  ·have hkn:¬(k:Int)<(ws.length:Int):=by omega
   have hke:ws.take k=ws:=YAP (by omega);have HQE:=hide (show qW=ZaP 1 src ws by rw [HQ.out,hke]);clear HQ hke;have HN1:=hide hown;have HT1:=hide hty;have HX1:=hide hnx;have hl1:qW.length<=ws.length:=by rw [HQE.out];exact ZeK 1 src ws
   have HQW:=HQE;clear hown hty hnx hql HQE
   rename World=>wa
   go_wp2
   go_loopw [13,9] (fun i o wr=>∃ (k:Nat) (x:Value) (qB:List QP),k<=bs.length/\i=M (k:Int)/\o=x/\Hid (qB=qW++ZaP 2 src (bs.take k))/\qB.length<=qW.length+k/\wr.ownsRow w.heap.size 54 6 x qB.length (flat encQ qB)/\TyK w3 wr/\T_ w wr/\w3.heap.size<=wr.heap.size) (fun i _ _=>bs.length-(intOf i).toNat)
   case atStart=>exact ⟨0,_,_,by omega,rfl,rfl,hide (show qW=qW++ZaP 2 src (bs.take 0) by simp [ZaP]),by omega,HN1,HT1,HX1,hsz⟩
   case round=>
    obtain⟨k,x,qB,hk,rfl,rfl,HQ,hql,hown,hty,hnx,hsz⟩:=hrel;obtain⟨xa,xc,rfl⟩:=Zac hown;by_cases hlt:k<bs.length
    ·obtain ⟨p,hp⟩:∃ p,bs[k]? = some p:=⟨bs[k],YAA hlt⟩;have hwr:=hty.ways HB3;obtain⟨gw,cw,hve,hgw,c0,c1,c2,cs,hcs⟩:=ZiG hwr hp;cases hve;obtain⟨pa,pc,hpn⟩:=Zac (hwr.nears p (YAH hp)).1;rw [hpn] at c2;have hki:(0:Int)<=(k:Int):=by omega
     have hkj:(k:Int)<(bs.length:Int):=by omega
     have HP:=hide hp;have HPN:=hide hpn;by_cases ht:p.1.to=src
     ·have hd:(p.1.to != src)=false:=by simpa using ht
      have HN:=hide (show qB=qW++ZaP 2 src (bs.take (k+1)) from by rw [HQ.out,Zhn HP.out ht]);have N1:=hide hown;have N2:=hide hty;have N3:=hide hnx;clear hp hpn hown hnx hty hwr ht HQ HP HPN hcs;go_wp2;go_roundw
      case rel=>exact ⟨k+1,_,qB,by omega,by go_num,rfl,HN,by omega,N1,N2,N3,hsz⟩
      case measure=>exact MS_
     ·have hd:(p.1.to != src)=true:=by simpa using ht
      have HN:=hide (show qB++[(Zb5 2 (p.1,.slice pa p.1.hops.length pc))]=qW++ZaP 2 src (bs.take (k+1)) from by
       rw [Zgd HP.out ht,HQ.out, <-HPN.out,YAW])
      have BA:T_ wr (wr.alloc (.cells (encQ (Zb5 2 (p.1,.slice pa p.1.hops.length pc))).toArray 54)):=(YAC _ _).alloc (YA _) _;have OW:=hide (hown.alloc (.cells (encQ (Zb5 2 (p.1,.slice pa p.1.hops.length pc))).toArray 54));have HOB:=hide (fun j (hj:(Value.slice xa qB.length xc).ownBlock=some j)=>(hown.lt j hj).1);have HNE:=hide (show some gw≠(Value.slice xa qB.length xc).ownBlock from Zaq hown hcs (by decide));have HTY:=hide hty;have HNX:=hide hnx;have HBA:=hide BA;have NEWS:=hide (Zar (w:=wr) (cs:=encQ (Zb5 2 (p.1,.slice pa p.1.hops.length pc))) (t:=54));have HTG:=hide (fun W (hg:(wr.alloc (.cells (encQ (Zb5 2 (p.1,.slice pa p.1.hops.length pc))).toArray 54)).grownBy W (Value.slice xa qB.length xc).ownBlock)=>TyK.grown OW hg);have hgw2:gw<(wr.alloc (.cells (encQ (Zb5 2 (p.1,.slice pa p.1.hops.length pc))).toArray 54)).heap.size:=YAB hgw BA.size;have hwls:=hnx.size;clear hp hpn hown hnx hty hwr ht HQ HP HPN hcs BA;go_wp2
      go_region_held_law (fun W=>W.cell? (U gw (k*3))=some (M p.1.to)/\W.cell? (U gw (k*3+1))=some (M p.1.cost)/\W.cell? (U gw (k*3+2))=some (.slice pa p.1.hops.length pc)) (first | go_keep | (go_split_ands;refine⟨?_,?_,?_⟩ <;> (rw [hgrow.cell_far _ hgw2 HNE.out];assumption))) ((refine step_append_lies _ (by rfl) _ _ _ (by rfl) w.heap.size 54 i0 (.agg (rtC ZbI (.slice none 0 0))) 6 64 Tryz.underlying51 HI0 HZ0 HS0 HB0 rfl (by omega) (.slice xa qB.length xc) qB.length (flat encQ qB) (by rfl) OW (U wr.heap.size 0) 1 1 (encQ (Zb5 2 (p.1,.slice pa p.1.hops.length pc))) (by rfl) rfl NEWS (ZcL _ _ _ _) (by omega) (by unfold maxLen;omega) (by omega) (by simp;omega) (wr.heap.size+1) (by simp) ?_;intro gn cn w6 hown' hgrow hat hlt6))
      rename_i hheld
      clear hheld;have hgr:=Zg4 hgrow;have N1:=hide (show w6.ownsRow w.heap.size 54 6 (.slice (some (U gn 0)) (qB.length+1) cn) (qB++[(Zb5 2 (p.1,.slice pa p.1.hops.length pc))]).length (flat encQ (qB++[(Zb5 2 (p.1,.slice pa p.1.hops.length pc))])) by rw [ZaF,YAO];simpa [flat] using hown');have N2:=hide (HTY.out.trans ((TyK.below HBA).trans (HTG w6 hgr)));have N3:=hide ((HNX.out.trans (HBA.out.mono hwls)).grown (show (wr.alloc (.cells (encQ (Zb5 2 (p.1,.slice pa p.1.hops.length pc))).toArray 54)).grownBy w6 (Value.slice xa qB.length xc).ownBlock from hgr) (YAG hwls HBA.out.size) HOB);have hsz6:w3.heap.size<=w6.heap.size:=YAG hsz (YAG HBA.out.size (show (wr.alloc (.cells (encQ (Zb5 2 (p.1,.slice pa p.1.hops.length pc))).toArray 54)).grownBy w6 (Value.slice xa qB.length xc).ownBlock from hgr).size);clear hown' hgrow hgr hat hlt6 OW HOB HNE HTY HNX HBA NEWS HTG hgw2 c0 c1 c2;go_wp2;go_roundw
      case rel=>exact ⟨k+1,_,qB++[(Zb5 2 (p.1,.slice pa p.1.hops.length pc))],by omega,by go_num,rfl,HN,by simp;omega,N1.out,N2.out,N3.out,hsz6⟩
      case measure=>exact MS_
    ·have hkn:¬(k:Int)<(bs.length:Int):=by omega
     have hke:bs.take k=bs:=YAP (by omega);have HQE:=hide (show qB=qW++ZaP 2 src bs by rw [HQ.out,hke]);clear HQ hke;have HN1:=hide hown;have HT1:=hide hty;have HX1:=hide hnx;have hl2:qB.length<=ws.length+bs.length:=by rw [HQE.out,YAO];have:=ZeK 2 src bs;omega
     have hqb84:qB.length<=84:=by omega
     have HQB:=HQE;clear hown hty hnx hql HQE
     rename World=>wb
     go_wp2
     go_loopw [14,9] (fun i o wr=>∃ (t:Nat) (x:Value) (ts:List QP),1<=t/\t<=10/\i=M (t:Int)/\o=x/\wr.ownsRow w.heap.size 54 6 x (qB++ts).length (flat encQ (qB++ts))/\Hid (ZaE (fun to d=>to<(t:Int)/\Zdz (fsts ps) (Zag ws) (Zag bs) src to d) ((ZaO ts).map wOf))/\OffL ts/\Zp5 wr w3.heap.size ts/\TyK w3 wr/\T_ w wr/\w3.heap.size<=wr.heap.size) (fun i _ _=>11-(intOf i).toNat)
     case atStart=>exact ⟨1,_,[],by omega,by omega,rfl,rfl,by rw [List.append_nil];exact HN1,hide (Zcd (fun to d ⟨h1,h2⟩=>by have h3:=Zdl HSS HGD HGE h2;have:=h3.1.node;rw [h3.2] at this;omega)),fun b hb=>by simp at hb,⟨fun q hq=>by simp at hq,by simp⟩,HT1,HX1,hsz⟩
     case round=>
      obtain⟨t,x,ts,ht1,ht10,rfl,rfl,hown,HB,hol,hhop,hty,hnx,hsz⟩:=hrel;clear HN1 HT1 HX1;rw [YAO] at hown;obtain⟨xa,xc,rfl⟩:=Zac hown;have hlen9:ts.length<=9:=by
       have h:=ZeQ HB.out.1 (fun d hd=>by
        obtain⟨y,hy,rfl⟩:=YAV.1 hd;obtain⟨b,hb,rfl⟩:=YAV.1 hy;exact (hol b hb).node)
       simpa [ZaO] using h
      by_cases ht:t<=9
      ·have ht9:(t:Int)<=9:=by omega
       have hw:=hty.ways HW3;have hbw2:=hty.ways HB3;have HC1:=hide (HTH (.slice wsa ws.length wsc) (.slice bsa bs.length bsc) ws bs w0.heap.size w1.heap.size w1.heap.size w2.heap.size (t:Int) false wr hnx hw (by omega) (by omega) hbw2 (by omega) (by omega) HGD HGE);have HC2:=hide (fun W (hb:T_ wr W)=>HTH (.slice wsa ws.length wsc) (.slice bsa bs.length bsc) ws bs w0.heap.size w1.heap.size w1.heap.size w2.heap.size (t:Int) true W (hnx.trans (hb.mono hnx.size)) (hw.below hb (by omega)) (by have:=hb.size;omega) (by omega) (hbw2.below hb (by omega)) (by have:=hb.size;omega) (by omega) HGD HGE);have HOWN:=hide hown;have HOL:=hide hol;have HHOP:=hide hhop;have HTY:=hide hty;have HNX:=hide hnx;have hwr:=hnx.size;clear hown hol hhop hty hnx hw hbw2
       go_wp2_with fail
       refine HC1.out.mono ?_;rintro e w4 ⟨q,u,fv,rfl,hth,hq6,hu,b4⟩;obtain⟨ua,uc,rfl⟩:=Zac hu;obtain⟨F1,hF1,hst⟩:=hth;subst hF1;have hb4:=b4.size;unfold rtC;cases F1
       case true=>
        have hTN:=Zn3 HSS HGD HGE (by simpa [fsts] using hst);have HTN:=hide hTN;have HBQ:=hide (b4.alloc hb4 (.cells #[.bool q.thing,M q.to,M q.kind,M q.cost,M q.far,.slice ua q.hops.length uc] 54));have BXQ:=hide (show BoxR (w4.alloc (.cells #[.bool q.thing,M q.to,M q.kind,M q.cost,M q.far,.slice ua q.hops.length uc] 54)) w4.heap.size wr.heap.size q (.slice ua q.hops.length uc) from ⟨YAE _ _,hu.alloc _,hq6⟩);have HSQ:=hide (show (w4.alloc (.cells #[.bool q.thing,M q.to,M q.kind,M q.cost,M q.far,.slice ua q.hops.length uc] 54)).heap.size=w4.heap.size+1 by simp);clear hTN hst hu b4 HC1 HC2;have LITI:=YAe (base:=wr.heap.size) (e:=3) (size:=1) (w4.alloc (.cells #[.bool q.thing,M q.to,M q.kind,M q.cost,M q.far,.slice ua q.hops.length uc] 54)) #[] 0 HBQ.out.size (by decide) rfl;rw [HSQ.out] at LITI;have OWL:=hide LITI;have OWU:=hide (BXQ.out.own.alloc (.cells #[] 3));have LB:=(YAC (w4.alloc (.cells #[.bool q.thing,M q.to,M q.kind,M q.cost,M q.far,.slice ua q.hops.length uc] 54)).heap.size (w4.alloc (.cells #[.bool q.thing,M q.to,M q.kind,M q.cost,M q.far,.slice ua q.hops.length uc] 54))).alloc (YA _) (.cells #[] 3);have lbx:=(LB.block _ (Zab BXQ.out.box)).trans BXQ.out.box;unfold rtC at lbx;have lb5:=Zaa lbx 5;simp only [YAN,YAK,YAJ] at lb5;have hq6b:=BXQ.out.len;have HLB:=hide LB;have HLX:=hide lbx;have hzl:w4.heap.size<w4.heap.size+1:=by have h1:=Zab BXQ.out.box;have h2:=HSQ.out;omega
        clear LITI LB lbx
        go_wp2_with (first
         | (at_builtin;refine Zcv ZdI (by omega) ZcM (by omega) _ rfl _ _ 28 rfl wr.heap.size 3 Tryz.underlying28 (M 0) rfl Tryz.info3 _ [] rfl OWL wr.heap.size _ q.hops rfl OWU (by simp only [List.length_nil];omega) (YAG HBQ.out.size HLB.out.size) ?_))
        intro vh wh hownh hgrowh
        (try simp only [List.nil_append] at hownh)
        obtain⟨ha,hc,rfl⟩:=Zac hownh;have zb:=(hgrowh.block _ (Zab HLX) (by first | (simp [Value.ownBlock];done) | (simp [Value.ownBlock];omega))).trans HLX;have zf:=Zae zb;have z0:=Zaa zb 0;have z1:=Zaa zb 1;have z2:=Zaa zb 2;have z3:=Zaa zb 3;have z4:=Zaa zb 4;have z5:=Zaa zb 5;simp only [YAN,YAK,YAJ] at z0 z1 z2 z3 z4 z5;have BH:T_ wr wh:=(HBQ.out.trans (HLB.out.mono HBQ.out.size)).grown hgrowh (by have h1:=HBQ.out.size;have h2:=HLB.out.size;omega) (fun j hj=>(OWL.out.lt j hj).1);have bxh:BoxR wh (w4.heap.size) wr.heap.size q (.slice ua q.hops.length uc):=⟨zb,Zal OWU (fun j hj=>hgrowh.block j (OWU.out.lt j hj).2 (by have h1:=(BXQ.out.own.lt j hj).2;rw [HSQ.out] at h1;simp [Value.ownBlock];omega)),hq6b⟩;have bxn:=bxh.hop (l:=q.hops) hownh hq6b;have hzw:wr.heap.size<=w4.heap.size:=by omega
        have BN:T_ wr (wh.setCell (U w4.heap.size 5) (.slice ha q.hops.length hc)):=BH.trans (Zav zb hzw);have hsn:(wh.setCell (U w4.heap.size 5) (.slice ha q.hops.length hc)).heap.size=wh.heap.size:=by simp
        have BN2:=hide (BN.alloc BN.size (.cells (encQ ((q,.slice ha q.hops.length hc):QP)).toArray 54));have OW:=hide (show ((wh.setCell (U w4.heap.size 5) (.slice ha q.hops.length hc)).alloc (.cells (encQ ((q,.slice ha q.hops.length hc):QP)).toArray 54)).ownsRow w.heap.size 54 6 (.slice xa (qB.length+ts.length) xc) (qB++ts).length (flat encQ (qB++ts)) by rw [YAO];exact (Zad HOWN BN (YA _)).alloc _);have HXN:=hide (bxn.own.alloc (.cells (encQ ((q,.slice ha q.hops.length hc):QP)).toArray 54));have HSN:=hide hsn;have NEWS:=hide (Zar (w:=(wh.setCell (U w4.heap.size 5) (.slice ha q.hops.length hc))) (cs:=encQ ((q,.slice ha q.hops.length hc):QP)) (t:=54));rw [hsn] at NEWS;have HOB:=hide (fun j (hj:(Value.slice xa (qB.length+ts.length) xc).ownBlock=some j)=>(HOWN.out.lt j hj).1);have hww:=BN.size;clear bxn BN hsn bxh zb hgrowh hownh OWL OWU HLB HLX BXQ HBQ HSQ BH lb5
        go_wp2_with (first
         | (at_builtin;refine ZaR ZbF (by omega) (by omega) _ rfl _ _ 51 rfl w.heap.size 54 Tryz.underlying51 (.agg (rtC ZbI (.slice none 0 0))) rfl Tryz.infoRoute _ (qB++ts) ((q,.slice ha q.hops.length hc):QP) (ZcL _ _ _ _) rfl OW (U wh.heap.size 0) 1 rfl NEWS (by rw [YAO];omega) (YAG hwr BN2.out.size) ?_))
        intro v' w6 hown' hgrow hat;have TY6:=(TyK.below BN2).trans (TyK.grown OW hgrow);have hs6:=YAG BN2.out.size hgrow.size;have hOF:=ZkL (by omega) HTN.out.1 HTN.out.2 (fun d hd=>Zdl HSS HGD HGE hd);have N1:=hide (show w6.ownsRow w.heap.size 54 6 v' (qB++(ts++[((q,.slice ha q.hops.length hc):QP)])).length (flat encQ (qB++(ts++[((q,.slice ha q.hops.length hc):QP)]))) by rw [<-YAW];simpa using hown');have N2:=hide (show ZaE (fun to d=>to<((t+1:Nat):Int)/\Zdz (fsts ps) (Zag ws) (Zag bs) src to d) ((ZaO (ts++[((q,.slice ha q.hops.length hc):QP)])).map wOf) by
         rw [show ((t+1:Nat):Int)=(t:Int)+1 by omega,Za1,YAh];refine HB.out.push (S:=Zdz (fsts ps) (Zag ws) (Zag bs) src) (t:=(t:Int)) (b:=wOf q) ?_;rw [hOF.2];exact HTN.out.2)
        have N3:=hide (Zho (p:=((q,.slice ha q.hops.length hc):QP)) HOL hOF.1);have N4:=hide (show Zp5 w6 w3.heap.size (ts++[((q,.slice ha q.hops.length hc):QP)]) from ⟨fun r hr=>by
         rcases YAF.1 hr with h1 | h1
         ·exact (TY6.hop (HHOP.out.1 r h1)).wide (YA _) hs6
         ·have:r=((q,.slice ha q.hops.length hc):QP):=by simpa using h1
          subst this;have h2:=ZdN HXN (by decide) (TyK.grown OW hgrow);exact⟨Zaf h2 hsz,fun j hj=>(h2.lt j hj).2⟩,by
         rw [YAQ];refine⟨HHOP.out.2,by simp,fun a ha' b hb' j hj e=>?_⟩;have:b=((q,.slice ha q.hops.length hc):QP):=by simpa using hb'
         subst this;have h1:=(HHOP.out.1 a ha').2 j hj;have h2:=(HXN.out.lt j e).1;omega⟩)
        have N5:=hide (HTY.out.trans TY6);have N6:=hide ((HNX.out.trans (BN2.out.mono hwr)).grown hgrow (YAG hwr BN2.out.size) HOB);have hsz6:w3.heap.size<=w6.heap.size:=by omega
        obtain⟨va,vc,rfl⟩:=Zac hown';clear hown' hgrow hat OW BN2 HXN NEWS HOB TY6 hOF HTN HOWN HHOP HOL HB HTY HNX HSN;go_wp2;go_roundw
        case rel=>exact ⟨t+1,_,ts++[((q,.slice ha q.hops.length hc):QP)],by omega,by omega,by go_num,rfl,N1.out,N2,N3.out,N4.out,N5.out,N6.out,hsz6⟩
        case measure=>exact MS_
       case false=>
        have HN0:=hide (show ThSt (t:Int) false false q (thK (fsts ps) (Zag ws) (Zag bs) src (t:Int) false (fsts ps).length) by simpa [fsts] using hst);have BA4:T_ wr (w4.alloc (.cells #[.bool q.thing,M q.to,M q.kind,M q.cost,M q.far,.slice ua q.hops.length uc] 54)):=b4.alloc hb4 _;have HBX4:=hide (YAE w4 (.cells #[.bool q.thing,M q.to,M q.kind,M q.cost,M q.far,.slice ua q.hops.length uc] 54));have HCC:=hide (HC2 _ BA4);have HBA4:=hide BA4;have h4s:(w4.alloc (.cells #[.bool q.thing,M q.to,M q.kind,M q.cost,M q.far,.slice ua q.hops.length uc] 54)).heap.size=w4.heap.size+1:=by simp
        have H4S:=hide h4s;clear hst hu b4 HC1 HC2 BA4 h4s
        go_wp2_with fail
        refine HCC.out.mono ?_;rintro e w5 ⟨q2,u2,fv2,rfl,hth2,hq62,hu2,b5⟩;obtain⟨ua2,uc2,rfl⟩:=Zac hu2;obtain⟨F2,hF2,hst2⟩:=hth2;subst hF2;unfold rtC;have hb5:=b5.size;have hx5:=(b5.block _ (Zab HBX4)).trans HBX4;have x0:=Zaa hx5 0;have x1:=Zaa hx5 1;have x2:=Zaa hx5 2;have x3:=Zaa hx5 3;have x4:=Zaa hx5 4;have x5:=Zaa hx5 5;have xf:=Zae hx5;simp only [YAN,YAK,YAJ] at x0 x1 x2 x3 x4 x5;have h4s:=H4S.out;have RE:=ZrI (q:=q) (y:=.slice ua q.hops.length uc) wr.heap.size q2 (.slice ua2 q2.hops.length uc2) hx5 (Zaf hu2 (by omega));have B5:T_ wr w5:=HBA4.out.trans (b5.mono HBA4.out.size);have HBQ:=hide (B5.trans (RE.2.2.mono hb4));have BXQ:=hide (show BoxR (Zgg w5 w4.heap.size q2 (.slice ua2 q2.hops.length uc2)) w4.heap.size wr.heap.size q2 (.slice ua2 q2.hops.length uc2) from ⟨RE.1,RE.2.1,hq62⟩);have HSQ:=hide (show (Zgg w5 w4.heap.size q2 (.slice ua2 q2.hops.length uc2)).heap.size=w5.heap.size by simp [Zgg]);have hTF:=ZpR (HN0) (by simpa [fsts] using hst2);clear RE B5 hu2 b5 hx5 HBX4 HBA4 HCC H4S h4s hst2 HN0;cases F2
        case true=>
         have hTF2:=hTF;unfold ThSt at hTF2;rw [if_pos rfl] at hTF2;have HTN:=hide hTF2;clear hTF hTF2;have LITI:=YAe (base:=wr.heap.size) (e:=3) (size:=1) (Zgg w5 w4.heap.size q2 (.slice ua2 q2.hops.length uc2)) #[] 0 HBQ.out.size (by decide) rfl;rw [HSQ.out] at LITI;have OWL:=hide LITI;have OWU:=hide (BXQ.out.own.alloc (.cells #[] 3));have LB:=(YAC (Zgg w5 w4.heap.size q2 (.slice ua2 q2.hops.length uc2)).heap.size (Zgg w5 w4.heap.size q2 (.slice ua2 q2.hops.length uc2))).alloc (YA _) (.cells #[] 3);have lbx:=(LB.block _ (Zab BXQ.out.box)).trans BXQ.out.box;unfold rtC at lbx;have lb5:=Zaa lbx 5;unfold Zgg at lb5;simp only [YAN,YAK,YAJ] at lb5;have hq6b:=BXQ.out.len;have HLB:=hide LB;have HLX:=hide lbx;have hzl:w4.heap.size<w5.heap.size:=by have h1:=Zab BXQ.out.box;have h2:=HSQ.out;omega
         clear LITI LB lbx
         go_wp2_with (first
          | (at_builtin;refine Zcv ZdI (by omega) ZcM (by omega) _ rfl _ _ 28 rfl wr.heap.size 3 Tryz.underlying28 (M 0) rfl Tryz.info3 _ [] rfl OWL wr.heap.size _ q2.hops rfl OWU (by simp only [List.length_nil];omega) (YAG HBQ.out.size HLB.out.size) ?_))
         intro vh wh hownh hgrowh
         (try simp only [List.nil_append] at hownh)
         obtain⟨ha,hc,rfl⟩:=Zac hownh;have zb:=(hgrowh.block _ (Zab HLX) (by first | (simp [Value.ownBlock];done) | (simp [Value.ownBlock];omega))).trans HLX;have zf:=Zae zb;have z0:=Zaa zb 0;have z1:=Zaa zb 1;have z2:=Zaa zb 2;have z3:=Zaa zb 3;have z4:=Zaa zb 4;have z5:=Zaa zb 5;simp only [YAN,YAK,YAJ] at z0 z1 z2 z3 z4 z5;have BH:T_ wr wh:=(HBQ.out.trans (HLB.out.mono HBQ.out.size)).grown hgrowh (by have h1:=HBQ.out.size;have h2:=HLB.out.size;omega) (fun j hj=>(OWL.out.lt j hj).1);have bxh:BoxR wh (w4.heap.size) wr.heap.size q2 (.slice ua2 q2.hops.length uc2):=⟨zb,Zal OWU (fun j hj=>hgrowh.block j (OWU.out.lt j hj).2 (by have h1:=(BXQ.out.own.lt j hj).2;rw [HSQ.out] at h1;simp [Value.ownBlock];omega)),hq6b⟩;have bxn:=bxh.hop (l:=q2.hops) hownh hq6b;have hzw:wr.heap.size<=w4.heap.size:=by omega
         have BN:T_ wr (wh.setCell (U w4.heap.size 5) (.slice ha q2.hops.length hc)):=BH.trans (Zav zb hzw);have hsn:(wh.setCell (U w4.heap.size 5) (.slice ha q2.hops.length hc)).heap.size=wh.heap.size:=by simp
         have BN2:=hide (BN.alloc BN.size (.cells (encQ ((q2,.slice ha q2.hops.length hc):QP)).toArray 54));have OW:=hide (show ((wh.setCell (U w4.heap.size 5) (.slice ha q2.hops.length hc)).alloc (.cells (encQ ((q2,.slice ha q2.hops.length hc):QP)).toArray 54)).ownsRow w.heap.size 54 6 (.slice xa (qB.length+ts.length) xc) (qB++ts).length (flat encQ (qB++ts)) by rw [YAO];exact (Zad HOWN BN (YA _)).alloc _);have HXN:=hide (bxn.own.alloc (.cells (encQ ((q2,.slice ha q2.hops.length hc):QP)).toArray 54));have HSN:=hide hsn;have NEWS:=hide (Zar (w:=(wh.setCell (U w4.heap.size 5) (.slice ha q2.hops.length hc))) (cs:=encQ ((q2,.slice ha q2.hops.length hc):QP)) (t:=54));rw [hsn] at NEWS;have HOB:=hide (fun j (hj:(Value.slice xa (qB.length+ts.length) xc).ownBlock=some j)=>(HOWN.out.lt j hj).1);have hww:=BN.size;clear bxn BN hsn bxh zb hgrowh hownh OWL OWU HLB HLX BXQ HBQ HSQ BH lb5
         go_wp2_with (first
          | (at_builtin;refine ZaR ZbF (by omega) (by omega) _ rfl _ _ 51 rfl w.heap.size 54 Tryz.underlying51 (.agg (rtC ZbI (.slice none 0 0))) rfl Tryz.infoRoute _ (qB++ts) ((q2,.slice ha q2.hops.length hc):QP) (ZcL _ _ _ _) rfl OW (U wh.heap.size 0) 1 rfl NEWS (by rw [YAO];omega) (YAG hwr BN2.out.size) ?_))
         intro v' w6 hown' hgrow hat;have TY6:=(TyK.below BN2).trans (TyK.grown OW hgrow);have hs6:=YAG BN2.out.size hgrow.size;have hOF:=ZkL (by omega) HTN.out.1 HTN.out.2 (fun d hd=>Zdl HSS HGD HGE hd);have N1:=hide (show w6.ownsRow w.heap.size 54 6 v' (qB++(ts++[((q2,.slice ha q2.hops.length hc):QP)])).length (flat encQ (qB++(ts++[((q2,.slice ha q2.hops.length hc):QP)]))) by rw [<-YAW];simpa using hown');have N2:=hide (show ZaE (fun to d=>to<((t+1:Nat):Int)/\Zdz (fsts ps) (Zag ws) (Zag bs) src to d) ((ZaO (ts++[((q2,.slice ha q2.hops.length hc):QP)])).map wOf) by
          rw [show ((t+1:Nat):Int)=(t:Int)+1 by omega,Za1,YAh];refine HB.out.push (S:=Zdz (fsts ps) (Zag ws) (Zag bs) src) (t:=(t:Int)) (b:=wOf q2) ?_;rw [hOF.2];exact HTN.out.2)
         have N3:=hide (Zho (p:=((q2,.slice ha q2.hops.length hc):QP)) HOL hOF.1);have N4:=hide (show Zp5 w6 w3.heap.size (ts++[((q2,.slice ha q2.hops.length hc):QP)]) from ⟨fun r hr=>by
          rcases YAF.1 hr with h1 | h1
          ·exact (TY6.hop (HHOP.out.1 r h1)).wide (YA _) hs6
          ·have:r=((q2,.slice ha q2.hops.length hc):QP):=by simpa using h1
           subst this;have h2:=ZdN HXN (by decide) (TyK.grown OW hgrow);exact⟨Zaf h2 hsz,fun j hj=>(h2.lt j hj).2⟩,by
          rw [YAQ];refine⟨HHOP.out.2,by simp,fun a ha' b hb' j hj e=>?_⟩;have:b=((q2,.slice ha q2.hops.length hc):QP):=by simpa using hb'
          subst this;have h1:=(HHOP.out.1 a ha').2 j hj;have h2:=(HXN.out.lt j e).1;omega⟩)
         have N5:=hide (HTY.out.trans TY6);have N6:=hide ((HNX.out.trans (BN2.out.mono hwr)).grown hgrow (YAG hwr BN2.out.size) HOB);have hsz6:w3.heap.size<=w6.heap.size:=by omega
         obtain⟨va,vc,rfl⟩:=Zac hown';clear hown' hgrow hat OW BN2 HXN NEWS HOB TY6 hOF HTN HOWN HHOP HOL HB HTY HNX HSN;go_wp2;go_roundw
         case rel=>exact ⟨t+1,_,ts++[((q2,.slice ha q2.hops.length hc):QP)],by omega,by omega,by go_num,rfl,N1.out,N2,N3.out,N4.out,N5.out,N6.out,hsz6⟩
         case measure=>exact MS_
        case false=>
         have hTF2:=hTF;unfold ThSt at hTF2;rw [if_neg (by simp)] at hTF2;have N2:=hide (show ZaE (fun to d=>to<((t+1:Nat):Int)/\Zdz (fsts ps) (Zag ws) (Zag bs) src to d) ((ZaO ts).map wOf) by
          rw [show ((t+1:Nat):Int)=(t:Int)+1 by omega];exact HB.out.skip (S:=Zdz (fsts ps) (Zag ws) (Zag bs) src) (t:=(t:Int)) hTF2.2)
         have N1:=hide (show (Zgg w5 w4.heap.size q2 (.slice ua2 q2.hops.length uc2)).ownsRow w.heap.size 54 6 (.slice xa (qB.length+ts.length) xc) (qB++ts).length (flat encQ (qB++ts)) by rw [YAO];exact Zad HOWN HBQ (YA _));have N4:=hide (show Zp5 (Zgg w5 w4.heap.size q2 (.slice ua2 q2.hops.length uc2)) w3.heap.size ts from ⟨fun r hr=>((TyK.below HBQ).hop (HHOP.out.1 r hr)).wide (YA _) HBQ.out.size,HHOP.out.2⟩);have N5:=hide (HTY.out.trans (TyK.below HBQ));have N6:=hide (HNX.out.trans (HBQ.out.mono hwr));have hsz6:=YAG hsz HBQ.out.size;clear hTF hTF2 HOWN HHOP HTY HNX HBQ BXQ HSQ HB;go_wp2;go_roundw
         case rel=>exact ⟨t+1,_,ts,by omega,by omega,by go_num,rfl,N1,N2,HOL,N4,N5,N6,hsz6⟩
         case measure=>exact MS_
      ·have ht9:¬(t:Int)<=9:=by omega
       have HE:=hide (show ZaE (Zdz (fsts ps) (Zag ws) (Zag bs) src) ((ZaO ts).map wOf) from HB.out.congr (fun to d=>⟨fun h=>h.2,fun h=>⟨by have h3:=Zdl HSS HGD HGE h;have:=h3.1.node;rw [h3.2] at this;omega,h⟩⟩));have hw:=hty.ways HW3;have hbw2:=hty.ways HB3;have hqq:qB++ts=ZaP 1 src ws++ZaP 2 src bs++ts:=by rw [HQB.out,HQW.out]
       have hfin:RtsOwn wr w.heap.size wr.heap.size (.slice xa (qB.length+ts.length) xc) (qB++ts):=⟨by rw [YAO];exact hown,fun k hk=>(hown.lt k hk).2,fun p hp=>by
        rw [hqq] at hp;rcases YAF.1 hp with h0 | h0
        ·rcases YAF.1 h0 with h1 | h1
         ·exact (Zci hw 1 src p h1).wide (by omega) (by omega)
         ·exact (Zci hbw2 2 src p h1).wide (by omega) (by omega)
        ·exact (hhop.1 p h0).wide (by omega) (YA _),by
        rw [hqq,YAQ,YAQ];refine⟨⟨Zdu hw 1 src,Zdu hbw2 2 src,fun a ha b hb k hk e=>?_⟩,hhop.2,fun a ha b hb k hk e=>?_⟩
        ·have h1:=(Zci hw 1 src a ha).2 k hk;have h2:=((Zci hbw2 2 src b hb).1.lt k e).1;omega
        ·have h2:=((hhop.1 b hb).1.lt k e).1;rcases YAF.1 ha with h0 | h0
         ·have h1:=(Zci hw 1 src a h0).2 k hk;omega
         ·have h1:=(Zci hbw2 2 src a h0).2 k hk;omega⟩
       have HRO:=hide hfin;have HIR:=hide (show ZcZ (fsts ps) al border src (ZaO (qB++ts)) from ⟨Zag ws,Zag bs,(ZaO ts).map wOf,HBW,HBB,HE,by rw [hqq,Za1,Za1,ZeJ,ZeJ,ZmQ hol]⟩);have HBF:=hide hnx;clear hfin hown hnx hty hw hbw2 hol hhop hqq HB HE;go_wp2;go_ret
       first
        | exact ⟨_,_,rfl,HIR,HRO,HBF⟩
        | exact ⟨_,rfl,_,HIR,HRO,HBF⟩
theorem Zgr {S:Int->WayD->Prop}(h:ZaE S ds)(hS:∀ to w,S to w->GoodW w/\w.to=to):ZdS ds:=h.good hS
theorem ZqG {α:Type}(a b:Value)(xs ys:List α):Zb4 [(a,xs),(b,ys)]=xs++ys:=by simp [Zb4]
theorem Znp {α:Type}(a b c:Value)(xs ys zs:List α):Zb4 [(a,xs),(b,ys),(c,zs)]=xs++ys++zs:=by simp [Zb4]
theorem Zmk {p:WP}(h:ZbD W lo hi p):∀ u∈encW p,u.oneCell'=true:=by
 obtain⟨a,c,e⟩:=Zac h.1;intro u hu;have:p=(p.1,.slice a p.1.hops.length c):=by rw [<-e]
 rw [this] at hu;exact Zdr _ _ _ _ u hu
theorem Zjb {p:QP}(h:Zbu W lo hi p):∀ u∈encQ p,u.oneCell'=true:=by
 obtain⟨a,c,e⟩:=Zac h.1;intro u hu;have:p=(p.1,.slice a p.1.hops.length c):=by rw [<-e]
 rw [this] at hu;exact ZcL _ _ _ _ u hu
theorem Zlu (v u:Value)(ps:List RP)(al:List Int)(hi:Nat)(border:Bool)(src:Int)(w:World)(hv:RecsIn w hi v ps)(ha:ZaI w u al hi)(hhi:hi<=w.heap.size)(hn:tot ps<=1048576)(hal:al.length<=1048576)(hs:ZaA (fsts ps)=true):
  Calls Tryz.prog 87 #[v,u,.bool border,M src] w fun e w'=>∃ x qs,e=.returned x/\ZcZ (fsts ps) al border src (ZaO qs)/\RtsOwn w' w.heap.size w'.heap.size x qs/\T_ w w':=by
 obtain⟨a1,c1,rfl⟩:=Zac hv.row;obtain⟨a2,c2,rfl⟩:=ha.shape;have HWI:=hide (Zfe (.slice a1 ps.length c1) (.slice a2 al.length c2) ps al hi src w hv ha hhi hn hal);have HBY:=hide (fun W (hb:T_ w W)=>Zg7 (.slice a1 ps.length c1) (.slice a2 al.length c2) ps al hi border src W (hv.below hb hhi) (Zaw.later ha hb hhi) (YAG hhi hb.size) hn hal);have HTH:=hide (fun W vc cs ds es hc lo2 hi2 (hb:T_ w W) hw hh2 hnw hgd hge=>Zlv (.slice a1 ps.length c1) vc ps cs ds es hc hi lo2 hi2 src W (hv.below hb hhi) (YAG hhi hb.size) hw hh2 hnw hs hgd hge);clear hv ha hs
 go_enter Tryz.func87,Tryz.ntmps87
 go_wp2_with fail
 refine HWI.out.mono ?_;rintro e w1 ⟨uw,ws,rfl,hbw,how,b1⟩;obtain⟨wsa,wsc,rfl⟩:=Zac how.row;have hb1:=b1.size;have HW1:=hide how;have HBW:=hide hbw;have htw:=ZiR hbw (fun to d h=>ZaS h);clear how hbw HWI
 go_wp2_with fail
 refine (HBY _ b1).mono ?_;rintro e w2 ⟨ub,bs,rfl,hbb,hob,b2⟩;obtain⟨bsa,bsc,rfl⟩:=Zac hob.row;have hb2:=b2.size;have htb:=ZiR hbb (fun to d h=>Zbc h);have B2:T_ w w2:=b1.trans (b2.mono hb1);have how:=HW1.out.below b2 (YA _)
 -- the concatenated ways
 have BL:T_ w2 (w2.alloc (.cells #[.slice wsa ws.length wsc,.slice bsa bs.length bsc] 187)):=(YAC _ _).alloc (YA _) _;have hxl:=YAE w2 (.cells #[.slice wsa ws.length wsc,.slice bsa bs.length bsc] 187);have hwl:=ZeR ws;have hbl:=ZeR bs;have HCC:=hide (Zk6 [(.slice wsa ws.length wsc,ws),(.slice bsa bs.length bsc,bs)] w2.heap.size (w2.alloc (.cells #[.slice wsa ws.length wsc,.slice bsa bs.length bsc] 187))
  (fun j x hj=>by
   have h:=Zaa hxl j;rw [h]
   match j,hj with
   | 0,hj=>simp at hj;subst hj;rfl
   | 1,hj=>simp at hj;subst hj;rfl
   | j+2,hj=>simp at hj)
  (fun x hx=>by
   simp only [YAg,List.not_mem_nil,or_false] at hx;rcases hx with rfl | rfl
   ·exact ⟨_,how.row.alloc _⟩
   ·exact ⟨_,hob.row.alloc _⟩)
  (fun x hx=>by
   simp only [YAg,List.not_mem_nil,or_false] at hx;rcases hx with rfl | rfl
   ·exact fun p hp=>Zmk (how.nears p hp)
   ·exact fun p hp=>Zmk (hob.nears p hp))
  (by simp [sumL];omega) (by simp) (by simp))
 rw [ZqG,YAO] at HCC;have HB2:=hide B2;have HOW:=hide how;have HOB:=hide hob;have HBB:=hide hbb;have HBL:=hide BL;clear how hob hbb BL hxl HBY HW1 B2
 go_wp2_with fail
 refine HCC.out.mono ?_;rintro e w3 ⟨vc,rfl,hoc,b3⟩;obtain⟨ca,cc,rfl⟩:=Zac hoc;have hs2:(w2.alloc (.cells #[.slice wsa ws.length wsc,.slice bsa bs.length bsc] 187)).heap.size=w2.heap.size+1:=by simp
 have hb3:=b3.size;have B3:T_ w2 w3:=HBL.out.trans (b3.mono (by omega));have h23:=B3.size;have how3:=HOW.out.below B3 (by omega);have hob3:=HOB.out.below B3 (YA _);have hcat:WaysOwn w3 w.heap.size w3.heap.size (.slice ca (ws.length+bs.length) cc) (ws++bs):=⟨by rw [YAO];exact Zaf hoc (by omega),fun k hk=>(hoc.lt k hk).2,fun p hp=>by
  rcases YAF.1 hp with h1 | h1
  ·exact (how3.nears p h1).wide (YA _) (by omega)
  ·exact (hob3.nears p h1).wide hb1 (by omega),by
  rw [YAQ];refine⟨how3.apart,hob3.apart,fun a ha b hb k hk e=>?_⟩;have h1:=(how3.nears a ha).2 k hk;have h2:=((hob3.nears b hb).1.lt k e).1;omega⟩
 have HT3:=hide (HTH w3 (.slice ca (ws.length+bs.length) cc) (ws++bs) (Zag ws) (Zag bs) (by simp [Zag]) w.heap.size w3.heap.size (HB2.out.trans (B3.mono (by omega))) hcat (YA _) (by rw [Zl2];omega) (Zgr HBW (fun to d h=>ZaS h)) (Zgr HBB (fun to d h=>Zbc h)));have HW3:=hide how3;have HO3:=hide hob3;have HB3:=hide B3;have HS2:=hide hs2;clear how3 hob3 hcat hoc b3 HTH HCC HOW HOB B3 hs2 HBL
 go_wp2_with fail
 refine HT3.out.mono ?_;rintro e w4 ⟨vt,ts,rfl,holt,hbt,hot,b4⟩;obtain⟨ta,tc,rfl⟩:=Zac hot.row;have hb4:=b4.size;have how4:=HW3.out.below b4 (by omega);have hob4:=HO3.out.below b4 (by omega);have HI1:=hide (Zim (.slice wsa ws.length wsc) ws w.heap.size w1.heap.size 1 src w4 how4 (by omega) (by omega));have HW4:=hide how4;have HO4:=hide hob4;have HT4:=hide hot;have HBT:=hide hbt;have HOL:=hide holt;have B4:=hide (HB2.out.trans ((HB3.out.trans (b4.mono (by omega))).mono (by omega)));clear how4 hob4 hot hbt holt b4 HT3 HW3 HO3 HB3 HB2
 go_wp2_with fail
 refine HI1.out.mono ?_;rintro e w5 ⟨v1,rfl,ho1,b5⟩;obtain⟨n1a,n1c,rfl⟩:=Zac ho1;have hb5:=b5.size;have HI2:=hide (Zim (.slice bsa bs.length bsc) bs w1.heap.size w2.heap.size 2 src w5 (HO4.out.below b5 (by omega)) (by omega) (by omega));have HN1:=hide ho1;have HB5:=hide b5;clear ho1 b5 HI1
 go_wp2_with fail
 refine HI2.out.mono ?_;rintro e w6 ⟨v2,rfl,ho2,b6⟩;obtain⟨n2a,n2c,rfl⟩:=Zac ho2;have hb6:=b6.size;have r1:=Zad HN1 b6 (YA _);have B56:T_ w4 w6:=HB5.out.trans (b6.mono hb5);have r3:=Zad HT4.out.row B56 (YA _);have hw6:=HW4.out.below B56 (by omega);have hb6':=HO4.out.below B56 (by omega);have ht6:=HT4.out.below B56 (YA _);have hxl:=YAE w6 (.cells #[.slice n1a (ZaP 1 src ws).length n1c,.slice n2a (ZaP 2 src bs).length n2c,.slice ta ts.length tc] 51);have q1:=Zci hw6 1 src;have q2:=Zci hb6' 2 src;have hl1:=ZeK 1 src ws;have hl2:=ZeK 2 src bs;have hl3:ts.length<=9:=by
  have h:=ZeQ HBT.out.1 (fun d hd=>by
   obtain⟨y,hy,rfl⟩:=YAV.1 hd;obtain⟨b,hb,rfl⟩:=YAV.1 hy;exact (HOL b hb).node)
  simpa [ZaO] using h
 have HCQ:=hide (Zk4 [(.slice n1a (ZaP 1 src ws).length n1c,ZaP 1 src ws),(.slice n2a (ZaP 2 src bs).length n2c,ZaP 2 src bs),(.slice ta ts.length tc,ts)] w6.heap.size (w6.alloc (.cells #[.slice n1a (ZaP 1 src ws).length n1c,.slice n2a (ZaP 2 src bs).length n2c,.slice ta ts.length tc] 51))
  (fun j x hj=>by
   have h:=Zaa hxl j;rw [h]
   match j,hj with
   | 0,hj=>simp at hj;subst hj;rfl
   | 1,hj=>simp at hj;subst hj;rfl
   | 2,hj=>simp at hj;subst hj;rfl
   | j+3,hj=>simp at hj)
  (fun x hx=>by
   simp only [YAg,List.not_mem_nil,or_false] at hx;rcases hx with rfl | rfl | rfl
   ·exact ⟨_,r1.alloc _⟩
   ·exact ⟨_,ho2.alloc _⟩
   ·exact ⟨_,r3.alloc _⟩)
  (fun x hx=>by
   simp only [YAg,List.not_mem_nil,or_false] at hx;rcases hx with rfl | rfl | rfl
   ·exact fun p hp=>Zjb (q1 p hp)
   ·exact fun p hp=>Zjb (q2 p hp)
   ·exact fun p hp=>Zjb (ht6.nears p hp))
  (by simp [sumL];omega) (by simp) (by simp))
 rw [Znp,YAO,YAO] at HCQ;have HQ1:=hide q1;have HQ2:=hide q2;have HA1:=hide (Zdu hw6 1 src);have HA2:=hide (Zdu hb6' 2 src);have HT6:=hide ht6;have B6:=hide (B4.out.trans (B56.mono (by omega)));have BZ:=hide ((YAC w6.heap.size w6).alloc (YA _) (.cells #[.slice n1a (ZaP 1 src ws).length n1c,.slice n2a (ZaP 2 src bs).length n2c,.slice ta ts.length tc] 51));clear hxl q1 q2 hw6 hb6' ht6 r1 r3 ho2 b6 B56 HI2 HN1 HB5 HW4 HO4 HT4 B4
 go_wp2_with fail
 refine HCQ.out.mono ?_;rintro e w7 ⟨x,rfl,hox,b7⟩;obtain⟨xa,xc,rfl⟩:=Zac hox;have hs6:=BZ.out.size;have B67:T_ w6 w7:=BZ.out.trans (b7.mono hs6);have hb7:=B67.size;have hlow:=B6.out.size;have hw67:w.heap.size<=w6.heap.size:=by omega
 have RO:RtsOwn w7 w.heap.size w7.heap.size (.slice xa ((ZaP 1 src ws).length+(ZaP 2 src bs).length+ts.length) xc) (ZaP 1 src ws++ZaP 2 src bs++ts):=⟨by rw [YAO,YAO];exact Zaf hox (by omega),fun k hk=>(hox.lt k hk).2,fun p hp=>by
  rcases YAF.1 hp with h0 | h0
  ·rcases YAF.1 h0 with h1 | h1
   ·exact ((HQ1 p h1).keep (fun j _ h2 h3=>B67.block j h3)).wide (YA _) (by omega)
   ·exact ((HQ2 p h1).keep (fun j _ h2 h3=>B67.block j h3)).wide hb1 (by omega)
  ·exact ((HT6.out.nears p h0).keep (fun j _ h2 h3=>B67.block j h3)).wide (by omega) (by omega),by
  rw [YAQ,YAQ];refine⟨⟨HA1,HA2,fun a ha b hb k hk e=>?_⟩,HT6.out.apart,fun a ha b hb k hk e=>?_⟩
  ·have h1:=(HQ1 a ha).2 k hk;have h2:=((HQ2 b hb).1.lt k e).1;omega
  ·have h2:=((HT6.out.nears b hb).1.lt k e).1;rcases YAF.1 ha with h0 | h0
   ·have h1:=(HQ1 a h0).2 k hk;omega
   ·have h1:=(HQ2 a h0).2 k hk;omega⟩
 have HRO:=hide RO;have HIR:=hide (show ZcZ (fsts ps) al border src (ZaO (ZaP 1 src ws++ZaP 2 src bs++ts)) from ⟨Zag ws,Zag bs,(ZaO ts).map wOf,HBW,HBB,HBT,by rw [Za1,Za1,ZeJ,ZeJ,ZmQ HOL.out]⟩);have HBF:=hide (B6.out.trans (B67.mono hw67));clear RO hox b7 B67 HQ1 HQ2 HA1 HA2 HT6 BZ HCQ B6;go_wp2;go_ret
 first
  | exact ⟨_,_,rfl,HIR,HRO,HBF⟩
  | exact ⟨_,rfl,_,HIR,HRO,HBF⟩
end Go.Proofs.YtcnjnibnecpddaaGreat
