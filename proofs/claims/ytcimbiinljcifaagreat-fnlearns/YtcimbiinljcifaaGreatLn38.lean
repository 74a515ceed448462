/-
  DrawRS DrawRecs BuildK
-/
import Derived.Test.YtcimbiinljcifaaGreatLn37
import Derived.Test.YtcimbiinljcifaaGreatLn16
import Derived.Test.YtcimbiinljcifaaGreatLn7
namespace Go.Proofs.YtcimbiinljcifaaGreat
open Go.RowKit
set_option linter.unusedSimpArgs false
set_option linter.unusedVariables false
set_option maxRecDepth 100000
set_option maxHeartbeats 8000000
theorem SelfSrc.box {W W':World}{hi z:Nat}{v1 v2 v3 v4:Value}{x:SelfD}{ps:List RP}{cs:Array Value}(h:SelfSrc W hi v1 v2 v3 v4 x ps)(hz:W.heap[z]? = some (.cells cs 31))(hg:W.grownBy W' (some z)):SelfSrc W' hi v1 v2 v3 v4 x ps where
 links:=h.links.kept hg (.inr (ZbE h.links hz (by decide)))
 ltop:=h.ltop
 things:=h.things.kept hg (.inr (ZbE h.things hz (by decide)))
 ttop:=h.ttop
 heard:=h.heard.kept hg (.inr (ZbE h.heard hz (by decide)))
 htop:=h.htop
 store:=h.store.box hz hg
theorem SelfSrc.wide {W:World}{hi hi':Nat}{v1 v2 v3 v4:Value}{x:SelfD}{ps:List RP}(h:SelfSrc W hi v1 v2 v3 v4 x ps)(hh:hi<=hi'):SelfSrc W hi' v1 v2 v3 v4 x ps where
 links:=h.links
 ltop:=fun k e=>Nat.lt_of_lt_of_le (h.ltop k e) hh
 things:=h.things
 ttop:=fun k e=>Nat.lt_of_lt_of_le (h.ttop k e) hh
 heard:=h.heard
 htop:=fun k e=>Nat.lt_of_lt_of_le (h.htop k e) hh
 store:=h.store.wide hh
theorem Zhl (a:Option Addr)(len cap:Nat)(w:World)(hc:Code w a len w.heap.size):
  Calls Tryz.prog 6 #[.slice a len cap] w fun e w'=>∃ x v1 v2 v3 v4 ps,e=.returned (ZdL x v1 v2 v3 v4)/\ZcE x ps=true/\totS x ps<=5000/\SelfSrc w' w'.heap.size v1 v2 v3 v4 x ps/\Below w.heap.size w w':=by
 have B0:Below w.heap.size w (w.alloc (.cells #[.int .i64 0,.int .i64 0,.int .i64 0,.slice none 0 0,.slice none 0 0,.slice none 0 0,.slice none 0 0] 31)):=(Below.refl _ _).alloc (Nat.le_refl _) _;have g0:=heap_alloc_new w (.cells #[.int .i64 0,.int .i64 0,.int .i64 0,.slice none 0 0,.slice none 0 0,.slice none 0 0,.slice none 0 0] 31);have HN:=hide (Zkk a len cap (w.alloc (.cells #[.int .i64 0,.int .i64 0,.int .i64 0,.slice none 0 0,.slice none 0 0,.slice none 0 0,.slice none 0 0] 31)) (ZfT hc B0));have G0:=hide g0;clear hc g0
 go_enter Tryz.func6,Tryz.ntmps6
 go_wp2_with fail
 obtain⟨w0,hw0⟩:∃ W,W=w.alloc (.cells #[.int .i64 0,.int .i64 0,.int .i64 0,.slice none 0 0,.slice none 0 0,.slice none 0 0,.slice none 0 0] 31):=⟨_,rfl⟩;rw [<-hw0] at B0 HN G0 |-;clear hw0;refine HN.out.mono ?_
 rintro e w1 ⟨rfl,hc1,hb1⟩;have hz0:=Zab G0.out;have HS:=hide (Zkv w0.heap.size a len cap w1 hc1);have g1:=(hb1.block _ hz0).trans G0.out;have B1:Below w.heap.size w w1:=B0.trans (hb1.mono B0.size);have hs1:=hb1.size;have G1:=hide g1;clear hc1 hb1 g1 G0 HN
 go_wp2_with fail
 refine HS.out.mono ?_
 rintro e w2 ⟨x,v1,v2,v3,v4,ps,rfl,hok,htt,src,hc2,gr2⟩;obtain⟨⟨a1,a1c,rfl⟩,⟨a2,a2c,rfl⟩,⟨a3,a3c,rfl⟩,⟨a4,a4c,rfl⟩⟩:=src.in.shapes;have g2:=(gr2.block _ (Zab G1.out) (by simp;omega)).trans G1.out
 have B2:Below w.heap.size w w2:=B1.grown gr2 B1.size (fun k hk=>by simp at hk;omega)
 have r0:=Zaa g2 0;have r1:=Zaa g2 1;have r2:=Zaa g2 2;have r3:=Zaa g2 3;have r4:=Zaa g2 4;have r5:=Zaa g2 5;have r6:=Zaa g2 6;simp at r0 r1 r2 r3 r4 r5 r6
 have fr:=Zae g2;have e0:=heap_setCell_same _ _ 0 _ _ (.int .i64 x.id) g2;have e1:=heap_setCell_same _ _ 1 _ _ (.int .i64 x.boot) e0;have e2:=heap_setCell_same _ _ 2 _ _ (.int .i64 x.net.n) e1;have e3:=heap_setCell_same _ _ 3 _ _ (.slice a1 x.net.ls.length a1c) e2;have e4:=heap_setCell_same _ _ 4 _ _ (.slice a2 x.net.ts.length a2c) e3;have e5:=heap_setCell_same _ _ 5 _ _ (.slice a3 x.heard.length a3c) e4;have e6:=heap_setCell_same _ _ 6 _ _ (.slice a4 ps.length a4c) e5;have hg:w2.grownBy (((((((w2.setCell ⟨w.heap.size,0,none⟩ (.int .i64 x.id)).setCell ⟨w.heap.size,1,none⟩ (.int .i64 x.boot)).setCell ⟨w.heap.size,2,none⟩ (.int .i64 x.net.n)).setCell ⟨w.heap.size,3,none⟩ (.slice a1 x.net.ls.length a1c)).setCell ⟨w.heap.size,4,none⟩ (.slice a2 x.net.ts.length a2c)).setCell ⟨w.heap.size,5,none⟩ (.slice a3 x.heard.length a3c)).setCell ⟨w.heap.size,6,none⟩ (.slice a4 ps.length a4c)) (some w.heap.size):=(Zaj (Zaj (Zaj (Zaj (Zaj (Zaj (Zag w2 w.heap.size _ _) (Zag _ w.heap.size _ _)) (Zag _ w.heap.size _ _)) (Zag _ w.heap.size _ _)) (Zag _ w.heap.size _ _)) (Zag _ w.heap.size _ _)) (Zag _ w.heap.size _ _));have S2:=hide ((src.box g2 hg).wide hg.size);have hB:Below w.heap.size w (((((((w2.setCell ⟨w.heap.size,0,none⟩ (.int .i64 x.id)).setCell ⟨w.heap.size,1,none⟩ (.int .i64 x.boot)).setCell ⟨w.heap.size,2,none⟩ (.int .i64 x.net.n)).setCell ⟨w.heap.size,3,none⟩ (.slice a1 x.net.ls.length a1c)).setCell ⟨w.heap.size,4,none⟩ (.slice a2 x.net.ts.length a2c)).setCell ⟨w.heap.size,5,none⟩ (.slice a3 x.heard.length a3c)).setCell ⟨w.heap.size,6,none⟩ (.slice a4 ps.length a4c)):=B2.grown hg (by have:=Zab g2;omega) (fun k hk=>by simp at hk;omega)
 have HB:=hide hB;have HF:=hide e6;have HOK:=hide hok;have HTT:=hide htt;clear e0 e1 e2 e3 e4 e5 e6 hg hB src g2 G1 gr2 hc2 hok htt HS B1 B2
 go_wp2
 (try simp only [Exit.inBlock,Exit.then])
 refine bodyPost_ret (results_cell_row rfl _ _ w.heap.size 31 #[.int .i64 x.id,.int .i64 x.boot,.int .i64 x.net.n,.slice a1 x.net.ls.length a1c,.slice a2 x.net.ts.length a2c,.slice a3 x.heard.length a3c,.slice a4 ps.length a4c] (0,0) _ rfl HF.out Tryz.underlying31 rfl (by kernel_rfl)) rfl ?_
 exact⟨x,_,_,_,_,ps,rfl,HOK.out,HTT.out,S2.out,HB.out⟩
theorem Zhk (a:Option Addr)(len cap:Nat)(w:World)(hc:Code w a len w.heap.size):
  Calls Tryz.prog 7 #[.slice a len cap] w fun e w'=>∃ (v:Value) (qs:List RP),e=.returned v/\RecsOwn w' w.heap.size w'.heap.size v qs/\(∀ p∈qs,Zas p.1=true)/\qs.length<=13/\Below w.heap.size w w':=by
 have HC:=hide hc;clear hc
 go_enter Tryz.func7,Tryz.ntmps7
 go_wp2_with fail
 refine (Zkk a len cap w HC.out).mono ?_
 rintro e w1 ⟨rfl,hc1,hb1⟩;have hp1:=ZaQ hc1;obtain⟨p,hpe⟩:∃ p,p=w.heap.size:=⟨_,rfl⟩;have HPE:=hide hpe;rw [<-hpe] at hc1 hp1 |-;have C2:=hide (ZaX hc1 (.cells #[] 40));have R2:=hide (Zce w1 (p+1) hp1);have G2:=hide (hb1.alloc hb1.size (.cells #[] 40));clear hc1 hb1 HC hpe
 go_wp2
 generalize w1.alloc (.cells #[] 40)=w2 at *
 go_loopw [5,4] (fun i o wr=>∃ (k:Nat) (qs:List RP) (u:Value),k<=13/\i=.int .i64 k/\o=u/\qs.length=k/\Hid (∀ q∈qs,Zas q.1=true)/\RecsOwn wr (p+1) wr.heap.size u qs/\p<wr.heap.size/\Cur wr p a len cap/\Below w.heap.size w wr) (fun i _ _=>14-(intOf i).toNat)
 case atStart=>exact ⟨0,[],_,by omega,rfl,rfl,rfl,hide (by simp),R2.out,ZaQ C2.out,C2.out,G2.out⟩
 case round=>
  obtain⟨k,qs,u,hk,rfl,rfl,hql,HOK,hown,hpr,hcr,hnx⟩:=hrel;obtain⟨ua,uc,rfl⟩:=Zac hown.row;have hsz:=hnx.size;have OW:=hide hown;have HCR:=hide hcr;have HQL:=hide hql;clear hown hcr hql
  go_wp2_with fail
  refine (ZaB p a len cap 14 _ HCR.out (by omega) (by omega)).mono ?_
  rintro e w3 ⟨y,rfl,hy0,hy1,hc3,hg3⟩;have s3:=hg3.size;have OW3:=hide ((OW.out.grownP hg3 (by omega)).wide (Nat.le_refl _) s3)
  have B3:Below w.heap.size w w3:=hnx.grown hg3 hsz (fun j hj=>by have:=HPE.out;simp at hj;omega)
  have C3:=hide hc3;clear hc3 hg3 OW HCR;by_cases hlt:(k:Int)<y
  ·go_wp2_with fail
   refine (ZeT p a len cap _ C3.out).mono ?_
   rintro e w4 ⟨x,n1,rfl,ho4,hl4,hok4,hc4,hg4⟩;have s4:=hg4.size;have OW4:=hide (OW3.out.grownP hg4 (by omega))
   have C4:=hide hc4;have HOK4:=hide hok4;have B4:Below w.heap.size w w4:=B3.grown hg4 B3.size (fun j hj=>by have:=HPE.out;simp at hj;omega)
   have hn4:Zat w4 w3.heap.size w4.heap.size (x,n1):=⟨Zal ho4 (by omega),fun k hk=>(ho4.lt k hk).2⟩
   obtain⟨na,nc,rfl⟩:=Zac ho4;have HN4:=hide hn4;clear hc4 hg4 ho4 hok4 OW3 C3 hn4;unfold recC;have HQ2:=hide (show qs.length<=1048576 by have:=HQL.out;omega)
   go_wp2_with (first
    | (at_builtin;refine ZaN ZaK (by omega) (by omega) _ rfl _ _ 29 rfl (p+1) 40 Tryz.underlying29 (.agg (recC Zbe (.slice none 0 0))) rfl Tryz.infoRec _ qs (x,.slice na x.near.length nc) (Zbm _ _ _ _) rfl (OW4.out.row.alloc _) ⟨w4.heap.size,0,none⟩ 1 rfl (Zar (cs:=encP (x,.slice na x.near.length nc))) (by have:=HQ2.out;omega) (by simp;omega) ?_))
   intro v' w5 hown' hgrow;have h4:=(OW4.out.keep (W':=w4.alloc (.cells (encP (x,.slice na x.near.length nc)).toArray 40)) (fun j _ _ h3=>Below.heap_alloc _ _ _ h3))
   have ow5:=h4.push2 (p:=(x,.slice na x.near.length nc)) (by simp;omega) (by omega) ((HN4.out.keep (fun j _ _ h3=>Below.heap_alloc _ _ _ h3)).wide (Nat.le_refl _) (by simp)) hown' hgrow
   obtain⟨va,vc,rfl⟩:=Zac hown';have B5:Below w.heap.size w w5:=(B4.alloc B4.size _).grown hgrow (by simp;have:=B4.size;omega) (fun j hj=>by have:=(h4.row.lt j hj).1;have:=HPE.out;omega)
   have C5:=hide ((ZaX C4.out (.cells (encP (x,.slice na x.near.length nc)).toArray 40)).grown hgrow (fun b hb e=>by have:=(h4.row.lt b e.symm).1;omega))
   have OW5:=hide ow5;have HOK5:=hide (show ∀ q∈qs++[(x,.slice na x.near.length nc)],Zas q.1=true by
    intro q hq
    rcases List.mem_append.1 hq with h1 | h1
    ·exact HOK.out q h1
    ·have:q=(x,.slice na x.near.length nc):=by simpa using h1
     subst this;exact HOK4.out)
   have hs5:p<w5.heap.size:=ZaQ C5.out;clear ow5 h4 hown' hgrow
   go_wp2
   go_roundw
   case rel=>exact ⟨k+1,qs++[(x,.slice na x.near.length nc)],_,by omega,by go_num,rfl,by have:=HQL.out;simp;omega,HOK5,OW5.out,hs5,C5.out,B5⟩
   case measure=>simp [intOf];omega
  ·go_wp2
   go_ret
   have hp2:=HPE.out;have O3:=OW3.out.wide (show w.heap.size<=p+1 by omega) (Nat.le_refl _)
   first
    | exact ⟨_,qs,rfl,O3,HOK.out,by have:=HQL.out;omega,B3⟩
    | exact ⟨_,rfl,qs,O3,HOK.out,by have:=HQL.out;omega,B3⟩
theorem Zed {w:World}{ops:Array Oper}{rest:List Oper}{o:Oper}{a:Act}{Q:Exit->Act->World->Prop}(hgd:o.guard=none)
  (ho:o.op=.buildSlice 29 0 #[]) (h:∀ W,Hid (W=w.alloc (.cells #[] 40))->wpList Tryz.prog ops Q rest (a.put o.dst (.slice (some ⟨w.heap.size,0,none⟩) 0 0)) W):wpList Tryz.prog ops Q (o::rest) a w:=
 wpList_plain hgd fun _ hK=>by
  unfold Oper.wp execOp;rw [ho];have h2:=hK _ _ (h _ (hide rfl))
  go_simp
  exact h2
end Go.Proofs.YtcimbiinljcifaaGreat
