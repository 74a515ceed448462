/-
  TofI UpsI FoldM RunI PutAI
-/
import Derived.Test.YtadokhjefnkajaaGreatIe45
import Derived.Test.YtadokhjefnkajaaGreatIe29
import Derived.Test.YtadokhjefnkajaaGreatIe28
import Derived.Test.YtadokhjefnkajaaGreatIe16
import Derived.Test.YtadokhjefnkajaaGreatIe11
import Derived.Test.YtadokhjefnkajaaGreatIe43
import Derived.Test.YtadokhjefnkajaaGreatIe20
import Derived.Test.YtadokhjefnkajaaGreatIe44
import Derived.Test.YtadokhjefnkajaaGreatIe24
import Derived.Test.YtadokhjefnkajaaGreatIe13
import Derived.Test.YtadokhjefnkajaaGreatIe31
namespace Go.Proofs.YtadokhjefnkajaaGreat
open Go.RowKit
set_option linter.unusedSimpArgs false
set_option linter.unusedVariables false
set_option maxRecDepth 100000
set_option maxHeartbeats 8000000
def hrdA (f:Int->Int->Bool)(u:Int):Nat->List Int
 | 0=>[]
 | c+1=>hrdA f u c++(if f u (c:Int) then [u,(c:Int)] else [])
def hrdK (f:Int->Int->Bool):Nat->List Int
 | 0=>[]
 | k+1=>hrdK f k++hrdA f ((k:Int)+1) 3
theorem ZhR (f:Int->Int->Bool)(u:Int):∀ c,(hrdA f u c).length<=2*c
 | 0=>by simp [hrdA]
 | c+1=>by
  have:=ZhR f u c;unfold hrdA;rw [List.length_append]
  split <;> simp <;> omega
theorem ZfH (f:Int->Int->Bool):∀ k,(hrdK f k).length<=6*k
 | 0=>by simp [hrdK]
 | k+1=>by
  have h1:=ZfH f k;have h2:=ZhR f ((k:Int)+1) 3;unfold hrdK;rw [List.length_append];omega
def carB (N:Nat)(ls:List Lk)(bs zs:List Bool)(v u a:Int):Bool:=upI N zs v&&upI N zs u&&lkUp ls bs v u a
def slfD (N:Nat)(ls:List Lk)(ts:List Th)(bs zs:List Bool)(v:Int):SelfD:=⟨v,0,⟨(N:Int),ls,ts⟩,hrdK (carB N ls bs zs v) N⟩
structure HrSt (W:World) (z N:Nat) (v:Int) (v1 v2 hv:Value) (l:List Int):Prop where
 box:W.heap[z]? = some (.cells #[.int .i64 v,.int .i64 0,.int .i64 (N:Int),v1,v2,hv,.slice none 0 0] 31)
 own:W.ownsRow (z+1) 3 1 hv l.length (flat intE l)
theorem HrSt.below {W W':World}{z N:Nat}{v:Int}{v1 v2 hv:Value}{l:List Int}(h:HrSt W z N v v1 v2 hv l)(hb:Below W.heap.size W W'):HrSt W' z N v v1 v2 hv l:=
 ⟨by rw [hb.block z (Zab h.box)];exact h.box,Zae h.own hb (Nat.le_refl _)⟩
theorem HrSt.kept {w w':World}{z N:Nat}{v:Int}{v1 v2 hv:Value}{l:List Int}{o:Obj}(h:HrSt w z N v v1 v2 hv l)(hg:(w.alloc o).grownBy w' hv.ownBlock):w'.heap[z]? = some (.cells #[.int .i64 v,.int .i64 0,.int .i64 (N:Int),v1,v2,hv,.slice none 0 0] 31):=by
 have hz:=Zab h.box;rw [hg.block z (by simp;omega) (fun e=>by have:=(h.own.lt z e.symm).1;omega),Below.heap_alloc _ _ _ hz];exact h.box
theorem HrSt.push {w w':World}{z N:Nat}{v:Int}{v1 v2 hv hv':Value}{l l':List Int}{o:Obj}(h:HrSt w z N v v1 v2 hv l)(hg:(w.alloc o).grownBy w' hv.ownBlock)(ho:w'.ownsRow (z+1) 3 1 hv' l'.length (flat intE l')):HrSt (w'.setCell ⟨z,5,none⟩ hv') z N v v1 v2 hv' l':=by
 refine⟨?_,Zbe ho (by omega)⟩
 rw [heap_setCell_same _ _ 5 _ _ hv' (h.kept hg)]
 rfl
theorem RecsOwn.concat {W Wa Wb:World}{lo:Nat}{v u x:Value}{qs bs:List RP}(h:RecsOwn W lo W.heap.size v qs)(hb:Below W.heap.size W Wa)(hlo:lo<=W.heap.size)(hu:RecsOwn Wa W.heap.size Wa.heap.size u bs)
  (row:Wb.ownsRow Wa.heap.size 39 8 x (qs++bs).length (flat encP (qs++bs))) (hg:Below Wa.heap.size Wa Wb):RecsOwn Wb lo Wb.heap.size x (qs++bs) where
 row:=Zaj row (by have:=hb.size;omega)
 top:=fun k hk=>(row.lt k hk).2
 apart:=by
  rw [List.pairwise_append];refine⟨h.apart,hu.apart,fun p hp q hq k hk he=>?_⟩
  have h1:=(h.nears p hp).2 k hk;have h2:=((hu.nears q hq).1.lt k he).1;omega
 nears:=fun p hp=>by
  have hs:=hb.size
  rcases List.mem_append.1 hp with h1 | h1
  ·exact ((h.nears p h1).keep (fun j _ h2 _=>((hb.trans (hg.mono hs)).block j h2))).wide (Nat.le_refl _) (by have:=hg.size;omega)
  ·exact ((hu.nears p h1).keep (fun j _ h2 _=>hg.block j h2)).wide hlo hg.size
theorem Zmu (w:World)(va vb:Value)(la lb:List RP)(t:TypeId):∀ j x,([(va,la),(vb,lb)]:List (Value × List RP))[j]? = some x->(w.alloc (.cells #[va,vb] t)).cell? ⟨w.heap.size,j,none⟩=some x.1:=by
 intro j x hj;rw [Zaa (heap_alloc_new w _)]
 match j,hj with
 | 0,hj=>simp at hj;subst hj;rfl
 | 1,hj=>simp at hj;subst hj;rfl
 | j+2,hj=>simp at hj
theorem Zn9 {W:World}{va vb:Value}{la lb:List RP}{b1 b2:Nat}(h1:W.ownsRow b1 39 8 va la.length (flat encP la))(h2:W.ownsRow b2 39 8 vb lb.length (flat encP lb)):∀ x∈([(va,la),(vb,lb)]:List (Value × List RP)),∃ base,W.ownsRow base 39 8 x.1 x.2.length (flat encP x.2):=by
 intro x hx;simp at hx
 rcases hx with rfl | rfl
 ·exact ⟨_,h1⟩
 ·exact ⟨_,h2⟩
theorem Zpz {W W':World}{va vb:Value}{la lb:List RP}{b1 b2 c1 c2:Nat}(h1:RecsOwn W b1 c1 va la)(h2:RecsOwn W' b2 c2 vb lb):∀ x∈([(va,la),(vb,lb)]:List (Value × List RP)),∀ p∈x.2,∀ u∈encP p,u.oneCell'=true:=by
 intro x hx p hp;simp at hx
 rcases hx with rfl | rfl
 ·exact ZdE (h1.nears p hp)
 ·exact ZdE (h2.nears p hp)
theorem ZpY (N:Nat)(v1 v2 v3 v4 v5 v6 v7 v8:Value)(er:Int)(v:Int)(ls:List Lk)(ts:List Th)(bs zs:List Bool)(w:World)(h1:w.ownsRow 0 174 4 v1 ls.length (flat lkE ls))(h2:ZaV w v2 ts w.heap.size)(h3:Zba w v3 bs w.heap.size)(h4:Zba w v4 zs w.heap.size)(hl:bs.length=ls.length)(hls:ls.length<=1000)(hts:ts.length<=1000)(hz:zs.length=N)(hN:N<=6):
  Calls Tryz.prog 82 #[wldV N v1 v2 v3 v4 v5 v6 v7 v8 er,.int .i64 v] w fun e w'=>∃ u qs,e=.returned u/\fsts qs=nodD (slfD N ls ts bs zs v) (ZbK ls v)++Zey (slfD N ls ts bs zs v) ts/\RecsOwn w' w.heap.size w'.heap.size u qs/\Below w.heap.size w w':=by
 have HC:=hide (fun W (hb:Below w.heap.size w W) (t r:Int)=>Zjv N v1 v2 v3 v4 v5 v6 v7 v8 er 0 v t r (.slice none 0 0) (.slice none 0 0) ls bs zs W (Zae h1 hb (Nat.le_refl _)) (ZaE.then h3 hb) (ZaE.then h4 hb) hl (by omega) hz (by omega))
 have HN:=hide (fun W (hb:Below w.heap.size w W) (hv:Value) (l:List Int) (hll:l.length<=1048576) (hh:ZaM W hv l W.heap.size)=>Zne v1 v2 hv (.slice none 0 0) ⟨v,0,⟨(N:Int),ls,ts⟩,l⟩ W (by show ls.length<=_;omega) hll (ZaE.then (show ZaS w v1 ls w.heap.size from Zap h1) hb) hh)
 have HT:=hide (fun W (hb:Below w.heap.size w W) (hv:Value) (l:List Int)=>Zmb v1 v2 hv (.slice none 0 0) ⟨v,0,⟨(N:Int),ls,ts⟩,l⟩ W (by show ts.length<=_;omega) (ZaE.then h2 hb))
 obtain⟨a1,c1,hv1⟩:=Zac h1;obtain⟨a2,c2,hv2⟩:=ZaV.shape h2;obtain⟨a3,c3,hv3⟩:=h3.shape;obtain⟨a4,c4,hv4⟩:=h4.shape;have HTS:=hide hts;clear h1 h2 h3 h4 hls hts hz hl;unfold wldV pakV at HC;unfold Zkh at HN HT;simp only [] at HN HT
 unfold wldV;obtain⟨f,hf⟩:∃ f,f=carB N ls bs zs v:=⟨_,rfl⟩;have HC2:=hide (fun W hb t r=>by have h:=HC.out W hb t r;rw [show (upI N zs v&&upI N zs t&&lkUp ls bs v t r)=f t r by rw [hf];rfl] at h;exact h)
 have HSL:=hide (show slfD N ls ts bs zs v=⟨v,0,⟨(N:Int),ls,ts⟩,hrdK f N⟩ by rw [hf];rfl)
 clear HC hf;have hg0:((w.alloc (.cells #[.int .i64 (N:Int),v1,v2,v3,v4,v5,v6,v7,v8,.int .i64 er] 114)).alloc (.cells #[.int .i64 v,.int .i64 0,.int .i64 (N:Int),v1,v2,.slice none 0 0,.slice none 0 0] 31)).heap[w.heap.size]? = some (.cells #[.int .i64 (N:Int),v1,v2,v3,v4,v5,v6,v7,v8,.int .i64 er] 114):=by rw [Below.heap_alloc _ _ _ (by simp),heap_alloc_new]
 have hg1:((w.alloc (.cells #[.int .i64 (N:Int),v1,v2,v3,v4,v5,v6,v7,v8,.int .i64 er] 114)).alloc (.cells #[.int .i64 v,.int .i64 0,.int .i64 (N:Int),v1,v2,.slice none 0 0,.slice none 0 0] 31)).heap[w.heap.size+1]? = some (.cells #[.int .i64 v,.int .i64 0,.int .i64 (N:Int),v1,v2,.slice none 0 0,.slice none 0 0] 31):=by
  have:=heap_alloc_new (w.alloc (.cells #[.int .i64 (N:Int),v1,v2,v3,v4,v5,v6,v7,v8,.int .i64 er] 114)) (.cells #[.int .i64 v,.int .i64 0,.int .i64 (N:Int),v1,v2,.slice none 0 0,.slice none 0 0] 31)
  simpa using this
 have B0:Below w.heap.size w ((w.alloc (.cells #[.int .i64 (N:Int),v1,v2,v3,v4,v5,v6,v7,v8,.int .i64 er] 114)).alloc (.cells #[.int .i64 v,.int .i64 0,.int .i64 (N:Int),v1,v2,.slice none 0 0,.slice none 0 0] 31)):=Zas _ _;have ST0:=hide (show HrSt _ (w.heap.size+1) N v v1 v2 (.slice none 0 0) (hrdK f 0) from ⟨hg1,by simp [hrdK,flat];exact World.ownsRow_nil _ _ _ _⟩)
 have HG0:=hide hg0;have HB0:=hide B0;clear hg0 hg1 B0;subst hv1 hv2 hv3 hv4
 go_enter Tryz.func82,Tryz.ntmps82
 go_wp2
 generalize (w.alloc (.cells #[.int .i64 (N:Int),.slice a1 ls.length c1,.slice a2 ts.length c2,.slice a3 bs.length c3,.slice a4 zs.length c4,v5,v6,v7,v8,.int .i64 er] 114)).alloc (.cells #[.int .i64 v,.int .i64 0,.int .i64 (N:Int),.slice a1 ls.length c1,.slice a2 ts.length c2,.slice none 0 0,.slice none 0 0] 31)=w0 at *;have hw0:=HB0.out.size;have hz0:=Zab HG0.out
 go_loopw [6] (fun i wr=>∃ (k:Nat) (hv:Value),k<=N/\i=.int .i64 ((k:Int)+1)/\Hid (HrSt wr (w.heap.size+1) N v (.slice a1 ls.length c1) (.slice a2 ts.length c2) hv (hrdK f k))/\Hid (wr.heap[w.heap.size]? = some (.cells #[.int .i64 (N:Int),.slice a1 ls.length c1,.slice a2 ts.length c2,.slice a3 bs.length c3,.slice a4 zs.length c4,v5,v6,v7,v8,.int .i64 er] 114))/\Below w.heap.size w wr) (fun i _=>N+1-(intOf i).toNat)
 case atStart=>exact ⟨0,_,by omega,rfl,ST0,HG0,HB0.out⟩
 case round=>
  obtain⟨k,hv,hk,rfl,ST,GB,hnx⟩:=hrel;have hlk:=ZfH f k;have zq:=Zaa GB.out 0;simp only [List.getElem?_toArray,List.getElem?_cons_zero] at zq
  rename World=>wa
  by_cases hlt:k<N
  ·have hle:(k:Int)+1<=(N:Int):=by omega
   have HST0:=hide (show hrdK f k++hrdA f ((k:Int)+1) 0=hrdK f k by simp [hrdA])
   have HSTN:=hide (show hrdK f (k+1)=hrdK f k++hrdA f ((k:Int)+1) 3 from rfl)
   go_wp2
   go_loopw [19] (fun i wr=>∃ (c:Nat) (hv:Value),c<=3/\i=.int .i64 (c:Int)/\Hid (HrSt wr (w.heap.size+1) N v (.slice a1 ls.length c1) (.slice a2 ts.length c2) hv (hrdK f k++hrdA f ((k:Int)+1) c))/\Hid (wr.heap[w.heap.size]? = some (.cells #[.int .i64 (N:Int),.slice a1 ls.length c1,.slice a2 ts.length c2,.slice a3 bs.length c3,.slice a4 zs.length c4,v5,v6,v7,v8,.int .i64 er] 114))/\Below w.heap.size w wr) (fun i _=>3-(intOf i).toNat)
   case atStart=>exact ⟨0,hv,by omega,rfl,hide (by rw [HST0.out];exact ST.out),GB,hnx⟩
   case round=>
    clear ST GB zq hnx;obtain⟨c,hv,hc,rfl,ST,GB,hnx⟩:=hrel;have hsz:=hnx.size;by_cases hct:c<3
    ·have hci:(c:Int)<3:=by omega
     have HSA:=hide (show hrdA f ((k:Int)+1) (c+1)=hrdA f ((k:Int)+1) c++(if f ((k:Int)+1) (c:Int) then [(k:Int)+1,(c:Int)] else []) from rfl)
     have hlA:=ZhR f ((k:Int)+1) c;have HCX:=hide (HC2.out wr hnx ((k:Int)+1) (c:Int));obtain⟨q,hq⟩:∃ q,q=f ((k:Int)+1) (c:Int):=⟨_,rfl⟩;rw [<-hq] at HCX HSA;clear hq;have z0:=Zaa GB.out 0;have z1:=Zaa GB.out 1;have z2:=Zaa GB.out 2;have z3:=Zaa GB.out 3;have z4:=Zaa GB.out 4;have z5:=Zaa GB.out 5;have z6:=Zaa GB.out 6;have z7:=Zaa GB.out 7;have z8:=Zaa GB.out 8;have z9:=Zaa GB.out 9;simp only [List.getElem?_toArray,List.getElem?_cons_succ,List.getElem?_cons_zero] at z0 z1 z2 z3 z4 z5 z6 z7 z8 z9
     go_wp2_with fail
     refine HCX.out.mono ?_
     rintro e w2 ⟨rfl,b2⟩;have hs2:=b2.size;have ST2:=hide (ST.out.below b2);have G2:=hide ((b2.block _ (Zab GB.out)).trans GB.out);have B2:Below w.heap.size w w2:=hnx.trans (b2.mono hsz);clear b2 z0 z1 z2 z3 z4 z5 z6 z7 z8 z9 ST GB;cases q
     ·go_wp2
      go_roundw
      case rel=>exact ⟨c+1,hv,by omega,by go_num,hide (by rw [HSA.out];simp only [Bool.false_eq_true,if_false,List.append_nil];exact ST2.out),G2,B2⟩
      case measure=>simp [intOf];omega
     ·obtain ⟨l,hl⟩:∃ l,l=hrdK f k++hrdA f ((k:Int)+1) c:=⟨_,rfl⟩
      have HQL:=hide (show l.length<=1000 by rw [hl,List.length_append];omega)
      rw [<-hl] at ST2;have HLL:=hide hl;clear hl;obtain⟨ha,hcc,hve⟩:=Zac ST2.out.own;have y5:=Zaa ST2.out.box 5;simp only [List.getElem?_toArray,List.getElem?_cons_succ,List.getElem?_cons_zero] at y5
      have hz2:w.heap.size+1<w2.heap.size:=Zab ST2.out.box;subst hve
      go_wp2_with (first
       | (at_builtin;(refine Zfl (by decide) _ rfl _ _ 28 rfl (w.heap.size+1+1) 3 Tryz.underlying28 Tryz.info3 _ l ((k:Int)+1) (c:Int) rfl (ST2.out.own.alloc _) ⟨w2.heap.size,0,none⟩ 2 rfl (Zay (cs:=[.int .i64 ((k:Int)+1),.int .i64 (c:Int)])) (by have:=HQL.out;omega) (by simp;try omega) ?_;intro v' w4 l' hl' hown' hgrow;have k4:=ST2.out.kept hgrow;have f5:=Zaf k4 5;have c5:=Zaa k4 5;simp only [List.getElem?_toArray,List.getElem?_cons_succ,List.getElem?_cons_zero] at c5;have ST4:=hide (ST2.out.push hgrow hown');have hg4:w.heap.size<w2.heap.size:=(by omega);have g4:=(hgrow.block w.heap.size (by simp;try omega) (fun e=>by have:=(ST2.out.own.lt _ e.symm).1;omega)).trans ((Below.heap_alloc _ _ _ hg4).trans G2.out);have G4:=hide ((heap_setCell_other w4 ⟨w.heap.size+1,5,none⟩ w.heap.size v' (by simp)).trans g4);have B4:=hide (((B2.alloc (by omega) _).grown hgrow (by simp;try omega) (fun k hk=>by have:=(ST2.out.own.lt k hk).1;omega)).trans (Frame.below (Frame.set (lo:=w.heap.size) (hi:=w.heap.size+2) w4 (w.heap.size+1) 5 v' (by omega) (by omega)) (by have:=hgrow.size;simp at this;try omega)));obtain⟨va,vc,hvv⟩:=Zac hown';subst hvv;clear k4 hown' hgrow g4)))
      go_roundw
      case rel=>exact ⟨c+1,_,by omega,by go_num,hide (by rw [HSA.out];simp only [if_true];rw [<-List.append_assoc, <-HLL.out, <-hl'.out];exact ST4.out),G4,B4.out⟩
      case measure=>simp [intOf];omega
    ·have KN:=hide (show c=3 by omega)
     have hci:¬(c:Int)<3:=by omega
     go_wp2
     go_roundw
     case rel=>exact ⟨k+1,hv,by omega,by go_num,hide (by rw [HSTN.out, <-KN.out];exact ST.out),GB,hnx⟩
     case measure=>simp [intOf];omega
  ·have KN:=hide (show k=N by omega)
   have hle:¬(k:Int)+1<=(N:Int):=by omega
   have hv5:∃ hv5,hv5=hv:=⟨_,rfl⟩;have h0:=ST.out;rw [KN.out] at h0;clear ST;obtain⟨ha,hc,hve⟩:=Zac h0.own;subst hve;have HQL:=hide (show (hrdK f N).length<=36 by have:=ZfH f N;omega)
   have hz2:w.heap.size+1<wa.heap.size:=Zab h0.box;have y0:=Zaa h0.box 0;have y1:=Zaa h0.box 1;have y2:=Zaa h0.box 2;have y3:=Zaa h0.box 3;have y4:=Zaa h0.box 4;have y5:=Zaa h0.box 5;have y6:=Zaa h0.box 6;simp only [List.getElem?_toArray,List.getElem?_cons_succ,List.getElem?_cons_zero] at y0 y1 y2 y3 y4 y5 y6
   have HH:=hide (show ZaM wa.drew (.slice ha (hrdK f N).length hc) (hrdK f N) wa.drew.heap.size from Zap h0.own.drew)
   clear h0 hv5 GB
   go_wp2
   clear zq;refine Zag (S:=(fun (W:World)=>W.cell? ⟨w.heap.size+1,0,none⟩=some (.int .i64 v)/\W.cell? ⟨w.heap.size+1,1,none⟩=some (.int .i64 0)/\W.cell? ⟨w.heap.size+1,2,none⟩=some (.int .i64 (N:Int))/\W.cell? ⟨w.heap.size+1,3,none⟩=some (.slice a1 ls.length c1)/\W.cell? ⟨w.heap.size+1,4,none⟩=some (.slice a2 ts.length c2)/\W.cell? ⟨w.heap.size+1,5,none⟩=some (.slice ha (hrdK f N).length hc)/\W.cell? ⟨w.heap.size+1,6,none⟩=some (.slice none 0 0))) (by kernel_rfl) 7 rfl ⟨y0,y1,y2,y3,y4,y5,y6⟩ (fun ops hops hHeld=>?_)
   refine ZaP 0 ?_ ?_ ?_ (by rw [hops.out];kernel_rfl) ?_ ?_ (by assumption) ?_
   rotate_left 2
   ·rw [hops.out];simp only [getS];rfl
   ·intro W hW;(try dsimp only at hW);go_simp <;> with_reducible rfl
   ·exact fun _ _ _=>id
   try simp only [putS]
   refine ZaP 2 ?_ ?_ ?_ (by rw [hops.out];kernel_rfl) ?_ ?_ (by assumption) ?_
   rotate_left 2
   ·rw [hops.out];simp only [getS];rfl
   ·intro W hW;(try dsimp only at hW);go_simp <;> with_reducible rfl
   ·exact fun _ _ _=>id
   try simp only [putS]
   refine Zak 1 (oi:=?_) ?_ (by rw [hops.out];kernel_rfl) ?_ ?_
   rotate_left 1
   ·rw [hops.out];simp only [getS];rfl
   ·rw [hops.out];kernel_rfl
   intro K hK
   go_simp
   refine (HN.out wa.drew hnx.drew _ _ (by have:=HQL.out;omega) HH.out).mono ?_
   rintro e w2 ⟨u2,q2,rfl,e2,o2,b2⟩;have hs2:wa.heap.size<=w2.heap.size:=b2.size;obtain⟨a5,c5,rfl⟩:=Zac o2.row;have E2:=hide e2;have O2:=hide o2;clear e2 o2;refine hK.out _ _ ?_ (fun hHeld=>?_)
   ·obtain ⟨m0,m1,m2,m3,m4,m5,m6⟩:=hHeld
    exact⟨(b2.cell hz2).trans m0,(b2.cell hz2).trans m1,(b2.cell hz2).trans m2,(b2.cell hz2).trans m3,(b2.cell hz2).trans m4,(b2.cell hz2).trans m5,(b2.cell hz2).trans m6⟩
   clear hK K
   try simp only [putS]
   refine Zak 3 (oi:=?_) ?_ (by rw [hops.out];kernel_rfl) ?_ ?_
   rotate_left 1
   ·rw [hops.out];simp only [getS];rfl
   ·rw [hops.out];kernel_rfl
   intro K hK
   go_simp
   refine (HT.out w2 (hnx.drew.trans (b2.mono hnx.size)) _ (hrdK f N)).mono ?_
   rintro e w3 ⟨u3,q3,rfl,e3,o3,b3⟩;have hs3:w2.heap.size<=w3.heap.size:=b3.size;obtain⟨a6,c6,rfl⟩:=Zac o3.row;have E3:=hide e3;have O3:=hide o3;clear e3 o3;refine hK.out _ _ ?_ (fun hHeld=>?_)
   ·obtain ⟨m0,m1,m2,m3,m4,m5,m6⟩:=hHeld
    exact⟨(b3.cell (Nat.lt_of_lt_of_le hz2 hs2)).trans m0,(b3.cell (Nat.lt_of_lt_of_le hz2 hs2)).trans m1,(b3.cell (Nat.lt_of_lt_of_le hz2 hs2)).trans m2,(b3.cell (Nat.lt_of_lt_of_le hz2 hs2)).trans m3,(b3.cell (Nat.lt_of_lt_of_le hz2 hs2)).trans m4,(b3.cell (Nat.lt_of_lt_of_le hz2 hs2)).trans m5,(b3.cell (Nat.lt_of_lt_of_le hz2 hs2)).trans m6⟩
   clear hK K
   try simp only [putS]
   refine Zak 4 (oi:=?_) ?_ (by rw [hops.out];kernel_rfl) ?_ ?_
   rotate_left 1
   ·rw [hops.out];simp only [getS];rfl
   ·rw [hops.out];kernel_rfl
   intro K hK
   go_simp
   refine hK.out _ _ ?_ (fun hHeld=>?_)
   ·obtain ⟨m0,m1,m2,m3,m4,m5,m6⟩:=hHeld
    exact⟨(((Below.refl w3.heap.size w3).alloc (Nat.le_refl _) _).cell (Nat.lt_of_lt_of_le hz2 (Nat.le_trans hs2 hs3))).trans m0,(((Below.refl w3.heap.size w3).alloc (Nat.le_refl _) _).cell (Nat.lt_of_lt_of_le hz2 (Nat.le_trans hs2 hs3))).trans m1,(((Below.refl w3.heap.size w3).alloc (Nat.le_refl _) _).cell (Nat.lt_of_lt_of_le hz2 (Nat.le_trans hs2 hs3))).trans m2,(((Below.refl w3.heap.size w3).alloc (Nat.le_refl _) _).cell (Nat.lt_of_lt_of_le hz2 (Nat.le_trans hs2 hs3))).trans m3,(((Below.refl w3.heap.size w3).alloc (Nat.le_refl _) _).cell (Nat.lt_of_lt_of_le hz2 (Nat.le_trans hs2 hs3))).trans m4,(((Below.refl w3.heap.size w3).alloc (Nat.le_refl _) _).cell (Nat.lt_of_lt_of_le hz2 (Nat.le_trans hs2 hs3))).trans m5,(((Below.refl w3.heap.size w3).alloc (Nat.le_refl _) _).cell (Nat.lt_of_lt_of_le hz2 (Nat.le_trans hs2 hs3))).trans m6⟩
   clear hK K
   try simp only [putS]
   refine Zak 5 (oi:=?_) ?_ (by rw [hops.out];kernel_rfl) ?_ ?_
   rotate_left 1
   ·rw [hops.out];simp only [getS];rfl
   ·rw [hops.out];kernel_rfl
   intro K hK
   go_simp
   refine (Zjx [(.slice a5 q2.length c5,q2),(.slice a6 q3.length c6,q3)] w3.heap.size _ (Zmu _ _ _ _ _ _) (Zn9 ((Zae O2.out.row b3 (Nat.le_refl _)).alloc _) (O3.out.row.alloc _)) (Zpz O2.out O3.out) (by have h1:=congrArg List.length E2.out;have h2:=congrArg List.length E3.out;have h3:=Zc4 ls v;have h4:=Zh9 ⟨v,0,⟨(N:Int),ls,ts⟩,hrdK f N⟩ ts;have h5:=HTS.out;rw [Znd] at h1;simp [fsts] at h1 h2 h3 h4;simp [sumL];omega) (by simp) (by simp)).mono ?_
   rintro e w4 ⟨x,rfl,ho,b4⟩;have HO:=hide ho;clear ho;refine hK.out _ _ ?_ (fun hHeld=>?_)
   ·obtain ⟨m0,m1,m2,m3,m4,m5,m6⟩:=hHeld
    exact⟨(b4.cell (Nat.lt_of_lt_of_le hz2 (Nat.le_trans hs2 (Nat.le_trans hs3 (by simp))))).trans m0,(b4.cell (Nat.lt_of_lt_of_le hz2 (Nat.le_trans hs2 (Nat.le_trans hs3 (by simp))))).trans m1,(b4.cell (Nat.lt_of_lt_of_le hz2 (Nat.le_trans hs2 (Nat.le_trans hs3 (by simp))))).trans m2,(b4.cell (Nat.lt_of_lt_of_le hz2 (Nat.le_trans hs2 (Nat.le_trans hs3 (by simp))))).trans m3,(b4.cell (Nat.lt_of_lt_of_le hz2 (Nat.le_trans hs2 (Nat.le_trans hs3 (by simp))))).trans m4,(b4.cell (Nat.lt_of_lt_of_le hz2 (Nat.le_trans hs2 (Nat.le_trans hs3 (by simp))))).trans m5,(b4.cell (Nat.lt_of_lt_of_le hz2 (Nat.le_trans hs2 (Nat.le_trans hs3 (by simp))))).trans m6⟩
   clear hK K
   try simp only [putS]
   refine ZaP 6 ?_ ?_ ?_ (by rw [hops.out];kernel_rfl) ?_ ?_ (by assumption) ?_
   rotate_left 2
   ·rw [hops.out];simp only [getS];rfl
   ·intro W hW;(try dsimp only at hW);go_simp <;> with_reducible rfl
   ·exact fun _ _ _=>id
   try simp only [putS]
   refine wpAnyH_done (by rw [hops.out];kernel_rfl) ?_ _
   clear hops ops
   go_wp2
   go_ret
   have h9:=HO.out;simp only [ZeN,List.map_cons,List.map_nil,List.flatten_cons,List.flatten_nil,List.append_nil] at h9
   refine⟨_,q2++q3,rfl,?_,RecsOwn.wide (RecsOwn.concat (lo:=wa.drew.heap.size) O2.out b3 b2.size O3.out (Zaj h9 (by simp)) (((Below.refl _ _).alloc (Nat.le_refl _) _).trans (b4.mono (by simp)))) hnx.size (Nat.le_refl _),((hnx.drew.trans (b2.mono hnx.size)).trans (b3.mono (Nat.le_trans hnx.size hs2))).trans ((((Below.refl w3.heap.size w3).alloc (Nat.le_refl _) _).trans (b4.mono (by simp))).mono (Nat.le_trans hnx.size (Nat.le_trans hs2 hs3)))⟩
   rw [HSL.out]
   show (q2++q3).map (·.1)=_
   rw [List.map_append];exact congr (congrArg _ E2.out) E3.out
def upsK (zs:List Bool):Nat->List Int
 | 0=>[]
 | k+1=>upsK zs k++(if upB zs k then [(k:Int)+1] else [])
theorem Zig (zs:List Bool):∀ k,(upsK zs k).length<=k
 | 0=>by simp [upsK]
 | k+1=>by
  have:=Zig zs k;unfold upsK;rw [List.length_append]
  split <;> simp <;> omega
theorem Zj9 (N:Nat)(v1 v2 v3 v4 v5 v6 v7 v8:Value)(er:Int)(zs:List Bool)(w:World)(hz:Zba w v4 zs w.heap.size)(hl:zs.length=N)(hN:N<=100000):
  Calls Tryz.prog 80 #[wldV N v1 v2 v3 v4 v5 v6 v7 v8 er] w fun e w'=>∃ x,e=.returned x/\w'.ownsRow w.heap.size 3 1 x (upsK zs N).length (Za5 (upsK zs N))/\Below w.heap.size w w':=by
 have HU:=hide (fun W (hb:Below w.heap.size w W) (v:Int)=>ZkJ N v1 v2 v3 v4 v5 v6 v7 v8 er zs v W (ZaE.then hz hb) hl (by omega))
 obtain⟨a4,c4,rfl⟩:=hz.shape;rw [hl] at HU |-;unfold wldV at *;have HL:=hide hl;clear hz hl;have G0:=hide (heap_alloc_new w (.cells #[.int .i64 (N:Int),v1,v2,v3,.slice a4 N c4,v5,v6,v7,v8,.int .i64 er] 114));have B0:Below w.heap.size w (w.alloc (.cells #[.int .i64 (N:Int),v1,v2,v3,.slice a4 N c4,v5,v6,v7,v8,.int .i64 er] 114)):=(Below.refl _ _).alloc (Nat.le_refl _) _
 go_enter Tryz.func80,Tryz.ntmps80
 go_wp2
 generalize w.alloc (.cells #[.int .i64 (N:Int),v1,v2,v3,.slice a4 N c4,v5,v6,v7,v8,.int .i64 er] 114)=w0 at *;have z0:=Zaa G0.out 0;have z1:=Zaa G0.out 1;have z2:=Zaa G0.out 2;have z3:=Zaa G0.out 3;have z4:=Zaa G0.out 4;have z5:=Zaa G0.out 5;have z6:=Zaa G0.out 6;have z7:=Zaa G0.out 7;have z8:=Zaa G0.out 8;have z9:=Zaa G0.out 9;simp at z0 z1 z2 z3 z4 z5 z6 z7 z8 z9
 have hz0:=Zab G0.out;have hw0:=B0.size
 go_loopw [4,3] (fun i o wr=>∃ (k:Nat) (u:Value),k<=N/\i=.int .i64 ((k:Int)+1)/\o=u/\Hid (wr.ownsRow w0.heap.size 3 1 u (upsK zs k).length (Za5 (upsK zs k)))/\Below w0.heap.size w0 wr) (fun i _ _=>N+1-(intOf i).toNat)
 case atStart=>exact ⟨0,_,by omega,rfl,rfl,hide (by simp [upsK,Za5];exact World.ownsRow_nil _ _ _ _),Below.refl _ _⟩
 case round=>
  obtain⟨k,u,hk,rfl,rfl,OW,hnx⟩:=hrel;obtain⟨ua,uc,hue⟩:=Zcs OW.out;have hsz:=hnx.size;rw [<-hnx.cell (p:=⟨w.heap.size,0,none⟩) hz0] at z0;rw [<-hnx.cell (p:=⟨w.heap.size,1,none⟩) hz0] at z1;rw [<-hnx.cell (p:=⟨w.heap.size,2,none⟩) hz0] at z2;rw [<-hnx.cell (p:=⟨w.heap.size,3,none⟩) hz0] at z3;rw [<-hnx.cell (p:=⟨w.heap.size,4,none⟩) hz0] at z4;rw [<-hnx.cell (p:=⟨w.heap.size,5,none⟩) hz0] at z5;rw [<-hnx.cell (p:=⟨w.heap.size,6,none⟩) hz0] at z6;rw [<-hnx.cell (p:=⟨w.heap.size,7,none⟩) hz0] at z7;rw [<-hnx.cell (p:=⟨w.heap.size,8,none⟩) hz0] at z8;rw [<-hnx.cell (p:=⟨w.heap.size,9,none⟩) hz0] at z9;by_cases hlt:k<N
  ·obtain ⟨b,hb⟩:∃ b,upB zs k=b:=⟨_,rfl⟩
   have hI:upI N zs ((k:Int)+1)=b:=by
    unfold upI;rw [show inB ((k:Int)+1) 1 (N:Int)=true by simp [inB];omega,show ((k:Int)+1-1).toNat=k by omega,hb];rfl
   have HCX:=hide (HU.out wr (B0.trans (hnx.mono hw0)) ((k:Int)+1));rw [hI] at HCX;have HST:=hide (show upsK zs (k+1)=upsK zs k++(if b then [(k:Int)+1] else []) by rw [<-hb];rfl)
   have hpl:=Zig zs k;have hle:(k:Int)+1<=(N:Int):=by omega
   clear hI hb;subst hue
   go_wp2_with fail
   refine HCX.out.mono ?_
   rintro e w1 ⟨rfl,b1⟩;have hs1:=b1.size;have OW1:=hide (Zae OW.out b1 (Nat.le_refl _));have BF:Below w0.heap.size w0 w1:=hnx.trans (b1.mono hsz);clear b1 z0 z1 z2 z3 z4 z5 z6 z7 z8 z9;cases b
   ·go_wp2
    go_roundw
    case rel=>exact ⟨k+1,_,by omega,by go_num,rfl,hide (by rw [HST.out];simp only [Bool.false_eq_true,if_false,List.append_nil];exact OW1.out),BF⟩
    case measure=>simp [intOf];omega
   ·go_wp2_with (first
     | (at_builtin;refine Zbj _ rfl _ _ 28 rfl w0.heap.size 3 Tryz.underlying28 Tryz.info3 _ (upsK zs k) ((k:Int)+1) rfl (OW1.out.alloc _) ⟨w1.heap.size,0,none⟩ 1 rfl ?_ (by omega) (by simp;omega) ?_))
    ·rw [add_zero',World.cell?_alloc_at _ _ _ _ rfl];rfl
    intro v' w4 l' hl' hown' hgrow;have hb4:Below w0.heap.size w0 w4:=(BF.alloc (by omega) _).grown hgrow (by simp;omega) (fun k hk=>(OW1.out.lt k hk).1)
    have OW2:=hide (show w4.ownsRow w0.heap.size 3 1 v' (upsK zs (k+1)).length (Za5 (upsK zs (k+1))) by
     have e:l'=upsK zs (k+1):=by rw [hl'.out,HST.out];rfl
     rw [<-e];exact hown')
    clear hgrow hown' hl'
    go_wp2
    go_roundw
    case rel=>exact ⟨k+1,_,by omega,by go_num,rfl,OW2,hb4⟩
    case measure=>simp [intOf];omega
  ·have KN:=hide (show k=N by omega)
   have hle:¬(k:Int)+1<=(N:Int):=by omega
   subst hue
   go_wp2
   go_ret
   have h1:=OW.out;rw [KN.out] at h1;exact⟨_,by rw [KN.out];rfl,ZeX h1 hw0,B0.trans (hnx.mono hw0)⟩
theorem Zf8 (x y:RecD):Zaw x y=true↔x.area=y.area/\x.kind=y.kind/\x.owner=y.owner/\x.key=y.key:=by
 simp [Zaw,and_assoc]
def difK (x y:RecD):Prop:=Zaw x y=false
theorem ZoZ (xs:List RecD)(r x:RecD):x∈putD xs r↔x=r\/(x∈xs/\Zaw x r=false):=by
 unfold putD;simp only [List.append_assoc,List.mem_append,List.mem_filter,List.mem_singleton]
 constructor
 ·rintro (h | h | h)
  ·refine .inr ⟨h.1,?_⟩
   cases e:Zaw x r with
   | false=>rfl
   | true=>rw [(Zbk e).1] at h;exact absurd h.2 (by decide)
  ·exact .inl h
  ·refine .inr ⟨h.1,?_⟩
   cases e:Zaw x r with
   | false=>rfl
   | true=>rw [(Zbk e).2] at h;exact absurd h.2 (by decide)
 ·rintro (h | ⟨h,hk⟩)
  ·exact .inr (.inl h)
  ·rcases Zhx x r with e | e | e
   ·exact .inl ⟨h,e⟩
   ·rw [hk] at e;cases e
   ·exact .inr (.inr ⟨h,e⟩)
theorem Zdw:∀ (ts xs:List RecD)(x:RecD),ts.Pairwise difK->(x∈ts.foldl putD xs↔x∈ts\/(x∈xs/\∀ t∈ts,Zaw x t=false))
 | [],xs,x,_=>by simp
 | t::ts,xs,x,h=>by
  rw [List.foldl_cons,Zdw ts (putD xs t) x (List.pairwise_cons.1 h).2,ZoZ];have h1:=(List.pairwise_cons.1 h).1
  constructor
  ·rintro (h2 | ⟨h2 | h2,h3⟩)
   ·exact .inl (List.mem_cons_of_mem _ h2)
   ·exact .inl (by rw [h2];exact List.mem_cons_self ..)
   ·refine .inr ⟨h2.1,fun u hu=>?_⟩
    rcases List.mem_cons.1 hu with e | e
    ·rw [e];exact h2.2
    ·exact h3 u e
  ·rintro (h2 | ⟨h2,h3⟩)
   ·rcases List.mem_cons.1 h2 with e | e
    ·refine .inr ⟨.inl e,fun u hu=>?_⟩
     rw [e];exact h1 u hu
    ·exact .inl e
   ·exact .inr ⟨.inr ⟨h2,h3 t (List.mem_cons_self ..)⟩,fun u hu=>h3 u (List.mem_cons_of_mem _ hu)⟩
theorem ZdT:∀ (ts xs:List RecD),Asc xs->Asc (ts.foldl putD xs)
 | [],_,h=>h
 | t::ts,xs,h=>ZdT ts (putD xs t) (Zhw h t)
theorem ZgF (xs ts:List RecD):Zdq xs ts=(ts.map seq1).foldl putD xs:=by
 unfold Zdq;rw [List.foldl_map]
theorem Zpv {xs:List RecD}(h:Asc xs):xs.Pairwise difK:=h.imp (fun {a b} hab=>by
 unfold difK;cases e:Zaw a b with
 | false=>rfl
 | true=>rw [(Zbk e).1] at hab;cases hab)
theorem Zpw {xs:List RecD}(h:Asc xs){x y:RecD}(hx:x∈xs)(hy:y∈xs)(hs:Zaw x y=true):x=y:=by
 induction xs with
 | nil=>cases hx
 | cons z zs ih=>
  have h1:=(List.pairwise_cons.1 h)
  rcases List.mem_cons.1 hx with rfl | hx'
  ·rcases List.mem_cons.1 hy with e | hy'
   ·exact e.symm
   ·have:=h1.1 y hy'
    rw [(Zbk hs).1] at this;cases this
  ·rcases List.mem_cons.1 hy with rfl | hy'
   ·have:=h1.1 x hx'
    rw [(Zbk hs).2] at this;cases this
   ·exact ih h1.2 hx' hy'
theorem Zf2 {xs:List RecD}{r:RecD}(h:Zeh xs r=true):ZeI xs r∈xs/\Zaw (ZeI xs r) r=true:=by
 rcases Zdt xs r with hz | ⟨k,x,hz,hx,hs⟩
 ·rw [(ZeJ hz).2] at h;cases h
 ·rw [(ZhM hz hx).1]
  exact⟨List.mem_of_getElem? hx,hs⟩
theorem ZhN {xs:List RecD}{r:RecD}(h:Zeh xs r=false):ZeI xs r=Za6/\∀ x∈xs,Zaw x r=false:=by
 rcases Zdt xs r with hz | ⟨k,x,hz,hx,hs⟩
 ·refine ⟨(ZeJ hz).1,fun x hx=>?_⟩
  cases e:Zaw x r with
  | false=>rfl
  | true=>
   unfold atZ at hz;cases hi:xs.findIdx? (fun x=>Zaw x r) with
   | none=>rw [List.findIdx?_eq_none_iff] at hi;rw [hi x hx] at e;cases e
   | some i=>rw [hi] at hz;simp at hz
 ·rw [(ZhM hz hx).2] at h;cases h
theorem Zog {xs:List RecD}{r x:RecD}(ha:Asc xs)(hx:x∈xs)(hs:Zaw x r=true):ZeI xs r=x/\Zeh xs r=true:=by
 cases e:Zeh xs r with
 | false=>rw [(ZhN e).2 x hx] at hs;cases hs
 | true=>
  have h:=Zf2 e;refine⟨Zpw ha h.1 hx ?_,rfl⟩
  rw [Zf8] at *;obtain⟨_,a,b,c,d⟩:=h;obtain⟨a',b',c',d'⟩:=hs;exact⟨a.trans a'.symm,b.trans b'.symm,c.trans c'.symm,d.trans d'.symm⟩
theorem Zlq {xs ys:List RecD}{r:RecD}(hx:Asc xs)(hy:Asc ys)(h:∀ z,Zaw z r=true->(z∈xs↔z∈ys)):ZeI xs r=ZeI ys r/\Zeh xs r=Zeh ys r:=by
 cases e:Zeh xs r with
 | true=>
  have h1:=Zf2 e;have h2:=Zog hy ((h _ h1.2).1 h1.1) h1.2;exact⟨h2.1.symm,h2.2.symm⟩
 | false=>
  have h1:=ZhN e;cases e2:Zeh ys r with
  | false=>exact ⟨h1.1.trans (ZhN e2).1.symm,rfl⟩
  | true=>
   have h2:=Zf2 e2;have:=h1.2 _ ((h _ h2.2).2 h2.1);rw [h2.2] at this;cases this
theorem Zhi {xs:List RecD}(h:ZaI xs=true):Asc xs:=by
 unfold ZaI at h;simp only [Bool.and_eq_true] at h
 exact asc_of h.2
theorem Zmf {xs ys:List RecD}{a src:Int}(hx:ZaI xs=true)(hy:ZaI ys=true)(h:∀ z,z.kind=1->z.area=a->(z∈xs↔z∈ys)):ZbE xs a src=ZbE ys a src:=by
 have hn:∀ node,Zci xs a node=Zci ys a node/\Zgh xs a node=Zgh ys a node:=fun node=>
  Zlq (Zhi hx) (Zhi hy) (fun z hz=>by
   have:=(Zf8 _ _).1 hz;exact h z this.2.1 this.1)
 have hl:Zdz xs a=Zdz ys a:=by
  funext u v
  unfold Zdz ZlD Zeb;simp only [(hn _).1]
 have hw:Zbf xs a src=Zbf ys a src:=by
  funext ds
  unfold Zbf;rw [hx,hy,(hn src).2,hl]
 by_cases hd:∃ ds,Zbf xs a src ds
 ·obtain ⟨ds,hds⟩:=hd
  have h1:=Zbf.eq hds;rw [hw] at hds;rw [<-h1, <-Zbf.eq hds]
 ·have hd2:¬∃ ds,Zbf ys a src ds:=by rw [<-hw];exact hd
  unfold ZbE;rw [dif_neg hd,dif_neg hd2]
theorem Zhk {xs ys:List RecD}{al:List Int}{src area:Int}(hx:ZaI xs=true)(hy:ZaI ys=true)(ha:area∈al)(h1:∀ z,z.kind=1->z.area∈al->(z∈xs↔z∈ys))(h2:∀ z,z.kind=2->z.owner≠src->z.area∈al->(z∈xs↔z∈ys))(to c:Int):
  Zb8 xs al src area to c↔Zb8 ys al src area to c:=by
 have hw:∀ a∈al,ZbE xs a src=ZbE ys a src:=fun a hin=>Zmf hx hy (fun z hk hz=>h1 z hk (by rw [hz];exact hin))
 have e1:Zcj xs area src to=Zcj ys area src to:=by unfold Zcj;rw [hw area ha]
 have e2:Zau xs al src to=Zau ys al src to:=by
  funext w
  unfold Zau
  apply propext
  constructor
  ·rintro ⟨a,b,hb,hc⟩;exact⟨a,b,hb,by rw [<-hw b hb];exact hc⟩
  ·rintro ⟨a,b,hb,hc⟩;exact⟨a,b,hb,by rw [hw b hb];exact hc⟩
 have e3:Zbq xs al true src to=Zbq ys al true src to:=by
  funext d
  unfold Zbq outS Zcm;rw [e2]
  apply propext
  constructor
  ·rintro ⟨p,a,ha',hb,hd,r,hr,hk,har,ho,v,hv⟩
   exact⟨p,a,ha',hb,hd,r,(h2 r hk ho (by rw [har];exact ha')).1 hr,hk,har,ho,v,by rw [<-hw a ha'];exact hv⟩
  ·rintro ⟨p,a,ha',hb,hd,r,hr,hk,har,ho,v,hv⟩
   exact⟨p,a,ha',hb,hd,r,(h2 r hk ho (by rw [har];exact ha')).2 hr,hk,har,ho,v,by rw [hw a ha'];exact hv⟩
 unfold Zb8;rw [e1,e2,e3]
theorem Zfr {xs ys:List RecD}{al:List Int}{src area:Int}{ds:List RecD}(hx:ZaI xs=true)(hy:ZaI ys=true)(ha:area∈al)(h1:∀ z,z.kind=1->z.area∈al->(z∈xs↔z∈ys))(h2:∀ z,z.kind=2->z.owner≠src->z.area∈al->(z∈xs↔z∈ys))(h:ZbH xs al src area ds):ZbH ys al src area ds:=
 ⟨h.1,fun r=>by rw [h.2 r];constructor <;> (rintro ⟨to,c,e,ht⟩;exact⟨to,c,e,by first | exact (Zhk hx hy ha h1 h2 to c).1 ht | exact (Zhk hx hy ha h1 h2 to c).2 ht⟩)⟩
def keyB (area owner key:Int):RecD:=⟨area,2,owner,key,0,[],0,false⟩
def Zjq (xs:List RecD)(r:RecD)(i:Nat):Prop:=i<=xs.length/\(∀ t,t<i->ltAt xs r t)/\∀ t,i<=t->t<xs.length->¬ltAt xs r t
theorem Znx (v:Value)(ps:List RP)(hi:Nat)(area owner:Int)(w:World)(hv:RecsIn w hi v ps)(hhi:hi<=w.heap.size)(hn:tot ps<=1048576)(hasc:Asc (fsts ps)):
  Calls Tryz.prog 158 #[v,.int .i64 area,.int .i64 owner] w fun e w'=>∃ i j:Nat,e=.returned (.tuple #[.int .i64 (i:Int),.int .i64 (j:Int)])/\Zjq (fsts ps) (keyB area owner 0) i/\Zjq (fsts ps) (keyB area owner 7) j/\Below w.heap.size w w':=by
 have hfl:(fsts ps).length=ps.length:=by simp [fsts]
 have HS:=hide (fun W (hb:Below w.heap.size w W) (key:Int)=>by
  have h:=Zkf v ps hi (keyB area owner key,.slice none 0 0) W (hv.below hb hhi) (Nat.le_trans hhi hb.size) hn ⟨World.ownsRow_nil _ _ _ _,by intro k hk;simp [Value.ownBlock] at hk⟩ (fun s t h1 h2=>Zhv hasc _ s t h1 (by rw [hfl];exact h2))
  exact h.mono (R':=fun e w'=>∃ (i:Nat) (f:Bool),e=.returned (.tuple #[.int .i64 (i:Int),.bool f])/\Zjq (fsts ps) (keyB area owner key) i/\Below W.heap.size W w') (fun e w' ⟨i,f,h1,h2,h3,h4,_,h5⟩=>⟨i,f,h1,⟨by rw [hfl];exact h2,h3,fun t a b=>h4 t a (by rw [<-hfl];exact b)⟩,h5⟩))
 unfold recC at HS;obtain⟨a,c,rfl⟩:=Zac hv.row;clear hv hn hasc hfl;have H0:=hide (fun W hb=>HS.out W hb 0)
 have H7:=hide (fun W hb=>HS.out W hb 7)
 clear HS
 go_enter Tryz.func158,Tryz.ntmps158
 go_wp2_with fail
 refine (H0.out _ (Below.refl _ _)).mono ?_
 rintro e w1 ⟨i,f,rfl,hc0,b1⟩;have C0:=hide hc0;clear hc0
 go_wp2_with fail
 refine (H7.out _ b1).mono ?_
 rintro e w2 ⟨j,f2,rfl,hc7,b2⟩;have C7:=hide hc7;have B2:Below w.heap.size w w2:=b1.trans (b2.mono b1.size);clear hc7 b1 b2
 go_wp2
 go_ret2
 exact⟨i,j,rfl,C0.out,C7.out,B2⟩
theorem Zlc (f g:RecD->Bool)(hfg:∀ p,f p=true->g p=false)(xs:List RecD):totD (xs.filter f)+totD (xs.filter g)<=totD xs:=by
 induction xs with
 | nil=>simp [totD]
 | cons x xs ih=>
  have h:=hfg x;rw [List.filter_cons,List.filter_cons,ZcQ];cases hf:f x <;> cases hg:g x <;> simp_all [ZcQ] <;> omega
theorem Zpa (xs:List RecD)(r:RecD):totD (putD xs r)<=totD xs+(1+r.near.length):=by
 unfold putD;rw [Zco,Zco];have h:=Zlc (fun x=>Zam x r) (fun x=>Zam r x) (fun x hx=>Zdg hx) xs
 have h1:totD [r]=1+r.near.length:=by simp [totD]
 omega
theorem ZgD:∀ (ts xs:List RecD),totD (ts.foldl putD xs)<=totD xs+totD ts
 | [],xs=>by simp [totD]
 | t::ts,xs=>by
  rw [List.foldl_cons];have h1:=ZgD ts (putD xs t);have h2:=Zpa xs t;rw [ZcQ];omega
structure PASt (w wr:World) (lo:Nat) (v x:Value) (ps ts qs:List RP) (k:Nat):Prop where
 eq:fsts qs=(fsts (ts.take k)).foldl putD (fsts ps)
 own:RecsOwn wr lo wr.heap.size x qs
 near:∀ q∈qs,(∃ p∈ps,q.2=p.2)\/∃ t∈ts.take k,q.2=t.2
 keep:∀ j,j<w.heap.size->v.ownBlock≠some j->wr.heap[j]? = w.heap[j]?
 row:∀ j,x.ownBlock=some j->v.ownBlock=some j\/w.heap.size<=j
 bel:Below lo w wr
theorem PASt.step {w wr w2:World}{lo:Nat}{v x x':Value}{ps ts qs qs':List RP}{k:Nat}{l:RP}{o:Obj}(h:PASt w wr lo v x ps ts qs k)(hl:ts[k]? = some l)(hlo:lo<=w.heap.size)
  (he:fsts qs'=putD (fsts qs) l.1) (ho:RecsOwn w2 lo w2.heap.size x' qs') (hb:Below lo (wr.alloc o) w2) (hp:PutFine x qs l (wr.alloc o) w2 x' qs'):PASt w w2 lo v x' ps ts qs' (k+1) where
 eq:=by
  have e:fsts (ts.take (k+1))=fsts (ts.take k)++[l.1]:=map_take hl;rw [he,h.eq,e,List.foldl_append]
  rfl
 own:=ho
 near:=fun q hq=>by
  obtain⟨hk,e⟩:=List.getElem?_eq_some_iff.1 hl
  rcases hp.near q hq with h1 | h1
  ·rcases h.near q h1 with h2 | ⟨t,ht,h3⟩
   ·exact .inl h2
   ·exact .inr ⟨t,by rw [List.take_succ_eq_append_getElem hk];exact List.mem_append_left _ ht,h3⟩
  ·exact .inr ⟨l,by rw [List.take_succ_eq_append_getElem hk,e];simp,h1⟩
 keep:=fun j hj hv=>by
  have hs:=h.bel.size;have hx:x.ownBlock≠some j:=fun e=>by
   rcases h.row j e with h1 | h1
   ·exact hv h1
   ·omega
  rw [hp.keep j (by simp;omega) hx,Below.heap_alloc _ _ _ (by omega),h.keep j hj hv]
 row:=fun j hj=>by
  have hs:=h.bel.size
  rcases hp.row j hj with h1 | h1
  ·exact h.row j h1
  ·exact .inr (by simp at h1;omega)
 bel:=(h.bel.alloc (by have:=h.bel.size;omega) _).trans hb
theorem ZnT (xs:List RecD)(k:Nat):totD (xs.take k)<=totD xs:=by
 have e:xs=xs.take k++xs.drop k:=(List.take_append_drop k xs).symm;have h2:totD xs=totD (xs.take k)+totD (xs.drop k):=by
  conv=>lhs;rw [e]
  rw [Zco]
 omega
theorem ZlU (v u:Value)(ps ts:List RP)(lo:Nat)(w:World)(hv:RecsOwn w lo w.heap.size v ps)(hu:Zbn w u ts w.heap.size)(hlo:lo<=w.heap.size)(hn:tot ps+tot ts<=1048576)(hasc:Asc (fsts ps))(hnr:∀ t∈ts,ZaD w lo w.heap.size t)(hap:∀ p∈ps,∀ t∈ts,Zd4 p t)(hta:ts.Pairwise Zd4)(hne:∀ j,v.ownBlock=some j->u.ownBlock≠some j):
  Calls Tryz.prog 58 #[v,u] w fun e w'=>∃ x qs,e=.returned x/\PASt w w' lo v x ps ts qs ts.length:=by
 have hnl:=Zbh ts;obtain⟨a,cap,rfl⟩:=hu.shape;have HU:=hide hu;have HV:=hide hv;have HNR:=hide hnr;have HAP:=hide hap;have HTA:=hide hta;have HNE:=hide hne;have HAS:=hide hasc;have ST0:=hide (show PASt w w lo v v ps ts ps 0 from ⟨by simp [fsts],hv,fun q hq=>.inl ⟨q,hq,rfl⟩,fun _ _ _=>rfl,fun j h=>.inl h,Below.refl _ _⟩)
 clear hu hnr hap hta hne hasc hv
 go_enter Tryz.func58,Tryz.ntmps58
 go_wp2
 go_loopw [9,0] (fun i o wr=>∃ (k:Nat) (x:Value) (qs:List RP),k<=ts.length/\i=.int .i64 k/\o=x/\Hid (PASt w wr lo v x ps ts qs k)) (fun i _ _=>ts.length-(intOf i).toNat)
 case atStart=>exact ⟨0,v,ps,by omega,rfl,rfl,ST0⟩
 case round=>
  obtain⟨k,x,qs,hk,rfl,rfl,ST⟩:=hrel;have hsz:=ST.out.bel.size;obtain⟨xa,xc,hxe⟩:=Zac ST.out.own.row;by_cases hlt:k<ts.length
  ·obtain ⟨l,hl⟩:∃ l,ts[k]? = some l:=⟨ts[k],List.getElem?_eq_getElem hlt⟩
   have hlm:=List.mem_of_getElem? hl;obtain⟨b,off,cap',hve,hbb,c0,c1,c2,c3,c4,c5,c6,c7,hnr⟩:=HU.out.cells k l hl;cases hve
   have hkb:wr.heap[b]? = w.heap[b]? := ST.out.keep b hbb (fun e=>HNE.out b e rfl)
   have hcell:∀ j,wr.cell? ⟨b,j,none⟩=w.cell? ⟨b,j,none⟩:=fun j=>by simp only [World.cell?,hkb]
   rw [<-hcell] at c0 c1 c2 c3 c4 c5 c6 c7;obtain⟨pa,pc,hpn⟩:=ZaC.shape hnr;rw [hpn] at c5;have hbr:¬b=wr.heap.size:=by omega
   have hki:(0:Int)<=(k:Int):=by omega
   have hkj:(k:Int)<(ts.length:Int):=by omega
   have hal:=(ST.out.own.below ((Below.refl _ _).alloc (Nat.le_refl _) (.cells #[.int .i64 l.1.area,.int .i64 l.1.kind,.int .i64 l.1.owner,.int .i64 l.1.key,.int .i64 l.1.seq,.slice pa l.1.near.length pc,.int .i64 l.1.cost,.bool l.1.far] 39)) (Nat.le_refl _)).wide (Nat.le_refl _) (show wr.heap.size<=(wr.alloc (.cells #[.int .i64 l.1.area,.int .i64 l.1.kind,.int .i64 l.1.owner,.int .i64 l.1.key,.int .i64 l.1.seq,.slice pa l.1.near.length pc,.int .i64 l.1.cost,.bool l.1.far] 39)).heap.size by simp)
   have hnl2:ZaD (wr.alloc (.cells #[.int .i64 l.1.area,.int .i64 l.1.kind,.int .i64 l.1.owner,.int .i64 l.1.key,.int .i64 l.1.seq,.slice pa l.1.near.length pc,.int .i64 l.1.cost,.bool l.1.far] 39)) lo (wr.alloc (.cells #[.int .i64 l.1.area,.int .i64 l.1.kind,.int .i64 l.1.owner,.int .i64 l.1.key,.int .i64 l.1.seq,.slice pa l.1.near.length pc,.int .i64 l.1.cost,.bool l.1.far] 39)).heap.size l:=by
    have h0:=HNR.out l hlm;refine⟨Zan h0.1 (fun j hj=>?_),fun j hj=>by have:=h0.2 j hj;simp;omega⟩
    have hjw:=h0.2 j hj;rw [Below.heap_alloc _ _ _ (by omega),ST.out.keep j hjw (fun e=>ZcN h0 HV.out.row j hj e.symm)]
   have hapl:∀ q∈qs,Zd4 q l:=fun q hq=>by
    rcases ST.out.near q hq with ⟨p,hp,e⟩ | ⟨t,ht,e⟩
    ·intro j hj;rw [e] at hj;exact HAP.out p hp l hlm j hj
    ·intro j hj
     rw [e] at hj;obtain⟨i,hi⟩:=List.getElem?_of_mem ht;have hik:i<k:=by have:=(List.getElem?_eq_some_iff.1 hi).1;simp at this;omega
     rw [List.getElem?_take_of_lt hik] at hi;obtain⟨h1,e1⟩:=List.getElem?_eq_some_iff.1 hi;obtain⟨h2,e2⟩:=List.getElem?_eq_some_iff.1 hl;have:=List.pairwise_iff_getElem.1 HTA.out i k h1 h2 hik;rw [e1,e2] at this;exact this j hj
   have htq:tot qs<=1048576:=by
    rw [Zid,ST.out.eq];have h1:=ZgD (fsts (ts.take k)) (fsts ps);have h2:=ZnT (fsts ts) k;rw [show fsts (ts.take k)=(fsts ts).take k by simp [fsts]] at *
    rw [Zid,Zid] at hn;omega
   have hascq:Asc (fsts qs):=by rw [ST.out.eq];exact ZdT _ _ HAS.out
   have HC:=hide (ZmY _ qs lo l _ hal (by simp;omega) htq hascq hnl2 hapl)
   unfold recC at HC;rw [hpn] at HC;have HL:=hide hl;clear hcell hkb hal hnl2 hapl htq hascq hl hnr hpn hlm;subst hxe
   go_wp2_with fail
   refine HC.out.mono ?_
   rintro e w2 ⟨x',qs',rfl,he,ho,hb,hp⟩;have ST2:=hide (ST.out.step HL.out hlo he ho hb hp);obtain⟨xa2,xc2,rfl⟩:=Zac ho.row;clear he ho hb hp c0 c1 c2 c3 c4 c5 c6 c7
   go_wp2
   go_roundw
   case rel=>exact ⟨k+1,_,qs',by omega,by go_num,rfl,ST2⟩
   case measure=>simp [intOf];omega
  ·have KN:=hide (show k=ts.length by omega)
   subst hxe
   go_wp2
   go_ret
   have h1:=ST.out;rw [KN.out] at h1;exact⟨_,qs,rfl,h1⟩
end Go.Proofs.YtadokhjefnkajaaGreat
