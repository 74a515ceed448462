/-
  NodeS
-/
import Derived.Test.YtadokhjefnkajaaGreatIe20
namespace Go.Proofs.YtadokhjefnkajaaGreat
open Go.RowKit
set_option linter.unusedSimpArgs false
set_option linter.unusedVariables false
set_option maxRecDepth 100000
set_option maxHeartbeats 8000000
def ZfA (area node:Int):RecD:=⟨area,1,node,0,0,[],0,false⟩
def Zci (xs:List RecD)(area node:Int):RecD:=ZeI xs (ZfA area node)
def Zgh (xs:List RecD)(area node:Int):Bool:=Zeh xs (ZfA area node)
def ZgB (ns:List Nr)(b:Int):Int:=match ns.find? (fun n=>n.to==b) with
 | some n=>n.c
 | none=>0
def Zeb (xs:List RecD)(area a b:Int):Int:=ZgB (Zci xs area a).near b
theorem Zna (W:World)(B:Nat):ZaC W (.slice none 0 0) [] B:=⟨none,0,rfl,.inl rfl⟩
theorem Zgy (v:Value)(ps:List RP)(hi:Nat)(area node:Int)(w:World)(hv:RecsIn w hi v ps)(hhi:hi<=w.heap.size)(hn:tot ps<=1048576):
  Calls Tryz.prog 234 #[v,.int .i64 area,.int .i64 node] w fun e w'=>∃ u,e=.returned (.tuple #[.agg (recC (Zci (fsts ps) area node) u),.bool (Zgh (fsts ps) area node)])/\ZaC w' u (Zci (fsts ps) area node).near hi/\(Zci (fsts ps) area node).near.length<=1048576/\Below w.heap.size w w':=by
 have hnl:=Zbh ps;obtain⟨a1,c1,rfl⟩:=Zac hv.row;have BX:Below w.heap.size w (w.alloc (.cells #[.int .i64 0,.int .i64 0,.int .i64 0,.int .i64 0,.int .i64 0,.slice none 0 0,.int .i64 0,.bool false] 39)):=(Below.refl _ _).alloc (Nat.le_refl _) _;have hq:=heap_alloc_new w (.cells #[.int .i64 0,.int .i64 0,.int .i64 0,.int .i64 0,.int .i64 0,.slice none 0 0,.int .i64 0,.bool false] 39);obtain⟨w0,hw0⟩:∃ W,W=w.alloc (.cells #[.int .i64 0,.int .i64 0,.int .i64 0,.int .i64 0,.int .i64 0,.slice none 0 0,.int .i64 0,.bool false] 39):=⟨_,rfl⟩;rw [<-hw0] at BX hq;have hs0:=Zab hq;have HAT:=hide (Zo2 (.slice a1 ps.length c1) ps hi (ZfA area node,.slice none 0 0) w0 (hv.below BX hhi) (by have:=BX.size;omega) hn)
 unfold recC ZfA at HAT;simp only [] at HAT
 have HV:=hide hv;clear hv;unfold Zci Zgh;obtain⟨nr,hnr⟩:∃ r,r=ZfA area node:=⟨_,rfl⟩;rw [show (⟨area,1,node,0,0,[],0,false⟩:RecD)=nr from hnr.symm] at HAT
 rw [<-hnr];clear hnr
 rcases Zdt (fsts ps) nr with hz | ⟨j,y,hz,hy,_⟩
 ·obtain ⟨e1,e2⟩:=ZeJ hz
  rw [e1,e2];rw [hz] at HAT;clear hz e1 e2;unfold recC
  go_enter Tryz.func234,Tryz.ntmps234
  go_wp2_with fail
  rw [<-hw0];clear hw0;refine HAT.out.mono ?_
  rintro e w1 ⟨rfl,b1⟩;have B1:Below w.heap.size w w1:=BX.trans (b1.mono BX.size);have hz1:=(b1.block _ hs0).trans hq;clear b1 hq HAT;have u0:=Zaa hz1 0;have u1:=Zaa hz1 1;have u2:=Zaa hz1 2;have u3:=Zaa hz1 3;have u4:=Zaa hz1 4;have u5:=Zaa hz1 5;have u6:=Zaa hz1 6;have u7:=Zaa hz1 7;simp at u0 u1 u2 u3 u4 u5 u6 u7
  have fu:=Zaf hz1;have FF:=hide (ZpB Za6 (.slice none 0 0) hz1);have G8:=hide (ZjF w1 w.heap.size Za6 (.slice none 0 0));clear hz1
  go_wp2_with fail
  (try simp only [Exit.inBlock,Exit.then])
  refine bodyPost_ret (Zcx rfl _ _ w.heap.size 39 (recC Za6 (.slice none 0 0)) (0,0) _ rfl FF.out Tryz.underlying39 rfl (by kernel_rfl)) rfl ?_
  exact⟨.slice none 0 0,rfl,Zna _ _,(by simp [Za6]),B1.grown G8.out B1.size (fun k hk=>by simp at hk;omega)⟩
 ·obtain ⟨e1,e2⟩:=ZhM hz hy
  rw [e1,e2];obtain⟨t,htj,hty⟩:=Zg0 hy;have hjl:j<ps.length:=(List.getElem?_eq_some_iff.1 htj).1;have hji:(0:Int)<=(j:Int):=by omega
  have hjj:(j:Int)<(ps.length:Int):=by omega
  have hj0:¬(j:Int)<0:=by omega
  rw [hz] at HAT;obtain⟨b,off,cp,hve,hbb,c0,c1,c2,c3,c4,c5,c6,c7,hnr⟩:=HV.out.at.cells j t htj;cases hve
  have hbw:b<w.heap.size:=by omega
  obtain⟨pa,pc,hpn⟩:=ZaC.shape hnr;rw [hpn] at c5 hnr;have HNL:=hide (show t.1.near.length<=1048576 by have:=ZdN (List.mem_of_getElem? htj);omega)
  have HNR:=hide hnr;subst hty;clear hz hy htj e1 e2 hpn hnr;unfold recC
  go_enter Tryz.func234,Tryz.ntmps234
  go_wp2_with fail
  rw [<-hw0];clear hw0;refine HAT.out.mono ?_
  rintro e w1 ⟨rfl,b1⟩;have B1:Below w.heap.size w w1:=BX.trans (b1.mono BX.size);have hz1:=(b1.block _ hs0).trans hq;clear b1 hq HAT;rw [<-B1.cell (p:=⟨b,off+j*8,none⟩) hbw] at c0;rw [<-B1.cell (p:=⟨b,off+j*8+1,none⟩) hbw] at c1;rw [<-B1.cell (p:=⟨b,off+j*8+2,none⟩) hbw] at c2;rw [<-B1.cell (p:=⟨b,off+j*8+3,none⟩) hbw] at c3;rw [<-B1.cell (p:=⟨b,off+j*8+4,none⟩) hbw] at c4;rw [<-B1.cell (p:=⟨b,off+j*8+5,none⟩) hbw] at c5;rw [<-B1.cell (p:=⟨b,off+j*8+6,none⟩) hbw] at c6;rw [<-B1.cell (p:=⟨b,off+j*8+7,none⟩) hbw] at c7;obtain⟨z,hzz⟩:∃ z,z=w.heap.size:=⟨_,rfl⟩;rw [<-hzz] at hz1 |-;have HZ:=hide hzz;clear hzz;have u0:=Zaa hz1 0;have u1:=Zaa hz1 1;have u2:=Zaa hz1 2;have u3:=Zaa hz1 3;have u4:=Zaa hz1 4;have u5:=Zaa hz1 5;have u6:=Zaa hz1 6;have u7:=Zaa hz1 7;simp at u0 u1 u2 u3 u4 u5 u6 u7
  have fu:=Zaf hz1;have HZ1:=hide hz1;have FIN:∀ W,W=ZlV w1 z t.1 (.slice pa t.1.near.length pc)->ZaC W (.slice pa t.1.near.length pc) t.1.near hi/\Below w.heap.size w W:=by
   intro W hW;have G8:=ZjF w1 z t.1 (.slice pa t.1.near.length pc);rw [<-hW] at G8;have BF:Below w.heap.size w W:=B1.grown G8 B1.size (fun k hk=>by have:=HZ.out;simp at hk;omega)
   exact⟨ZaE.later HNR.out BF hhi,BF⟩
  have HFIN:=hide FIN;clear hz1 FIN HNR B1 HV BX hs0 hjl hbb hbw
  go_wp2_with fail
  (try simp only [Exit.inBlock,Exit.then])
  refine bodyPost_ret (Zcx rfl _ _ z 39 (recC t.1 (.slice pa t.1.near.length pc)) (0,0) _ rfl (ZpB t.1 (.slice pa t.1.near.length pc) HZ1.out) Tryz.underlying39 rfl (by kernel_rfl)) rfl ?_
  obtain⟨W5,hW5⟩:∃ W,W=ZlV w1 z t.1 (.slice pa t.1.near.length pc):=⟨_,rfl⟩;have h:=HFIN.out W5 hW5;subst hW5;exact⟨_,rfl,h.1,HNL.out,h.2⟩
theorem ZnK {ns:List Nr}{k:Nat}{n:Nr}{b:Int}(h:ns[k]? = some n)(hno:∀ q∈ns.take k,q.to≠b)(hb:n.to=b):ZgB ns b=n.c:=by
 have e:ns.find? (fun x=>x.to==b)=some n:=by
  obtain⟨hk,e1⟩:=List.getElem?_eq_some_iff.1 h;rw [List.find?_eq_some_iff_append];refine⟨by simpa using hb,ns.take k,ns.drop (k+1),?_,?_⟩
  ·rw [<-e1, <-List.drop_eq_getElem_cons hk,List.take_append_drop]
  ·intro x hx
   simpa using hno x hx
 unfold ZgB;rw [e]
theorem Zma {ns:List Nr}{b:Int}(hno:∀ q∈ns,q.to≠b):ZgB ns b=0:=by
 have e:ns.find? (fun x=>x.to==b)=none:=by
  rw [List.find?_eq_none];intro x hx
  simpa using hno x hx
 unfold ZgB;rw [e]
theorem Zje {ns:List Nr}{k:Nat}{n:Nr}{b:Int}(h:ns[k]? = some n)(hno:∀ q∈ns.take k,q.to≠b)(hz:n.to≠b):∀ q∈ns.take (k+1),q.to≠b:=by
 obtain⟨hk,e⟩:=List.getElem?_eq_some_iff.1 h;rw [List.take_succ_eq_append_getElem hk,e];intro q hq
 rcases List.mem_append.1 hq with h1 | h1
 ·exact hno q h1
 ·have:q=n:=by simpa using h1
  subst this;exact hz
theorem Zl8 (v:Value)(ps:List RP)(hi:Nat)(area a b:Int)(w:World)(hv:RecsIn w hi v ps)(hhi:hi<=w.heap.size)(hn:tot ps<=1048576):
  Calls Tryz.prog 260 #[v,.int .i64 area,.int .i64 a,.int .i64 b] w fun e w'=>e=.returned (.int .i64 (Zeb (fsts ps) area a b))/\Below w.heap.size w w':=by
 have HNO:=hide (Zgy v ps hi area a w hv hhi hn);obtain⟨a1,c1,rfl⟩:=Zac hv.row;clear hv;unfold Zeb;obtain⟨D,hD⟩:∃ D,D=Zci (fsts ps) area a:=⟨_,rfl⟩;rw [<-hD] at HNO;rw [<-hD];clear hD;obtain⟨X,hX⟩:∃ X,X=ZgB D.near b:=⟨_,rfl⟩;rw [<-hX];have HX:=hide hX;clear hX;unfold recC at HNO
 go_enter Tryz.func260,Tryz.ntmps260
 go_wp2_with fail
 refine HNO.out.mono ?_
 rintro e w1 ⟨u,rfl,hu,hul,b1⟩;obtain⟨ua,uc,rfl⟩:=ZaC.shape hu;have hx:=heap_alloc_new w1 (.cells #[.int .i64 D.area,.int .i64 D.kind,.int .i64 D.owner,.int .i64 D.key,.int .i64 D.seq,.slice ua D.near.length uc,.int .i64 D.cost,.bool D.far] 39);have BX:Below w1.heap.size w1 (w1.alloc (.cells #[.int .i64 D.area,.int .i64 D.kind,.int .i64 D.owner,.int .i64 D.key,.int .i64 D.seq,.slice ua D.near.length uc,.int .i64 D.cost,.bool D.far] 39)):=(Below.refl _ _).alloc (Nat.le_refl _) _;obtain⟨w2,hw2⟩:∃ W,W=w1.alloc (.cells #[.int .i64 D.area,.int .i64 D.kind,.int .i64 D.owner,.int .i64 D.key,.int .i64 D.seq,.slice ua D.near.length uc,.int .i64 D.cost,.bool D.far] 39):=⟨_,rfl⟩;rw [<-hw2] at hx BX;have B2:Below w.heap.size w w2:=b1.trans (BX.mono b1.size);have HU:Hid (ZaC w2 (.slice ua D.near.length uc) D.near w2.heap.size):=hide ((ZaE.later hu BX (Nat.le_trans hhi b1.size)).more (Nat.le_trans hhi B2.size));have hs2:=Zab hx;have HXX:=hide hx;clear hu hx
 go_wp2
 rw [<-hw2];clear hw2
 go_loopw [11] (fun i wr=>∃ k:Nat,k<=D.near.length/\i=.int .i64 k/\Hid (∀ q∈D.near.take k,q.to≠b)/\Below w2.heap.size w2 wr) (fun i _=>D.near.length-(intOf i).toNat)
 case atStart=>exact ⟨0,by omega,rfl,hide (by simp),Below.refl _ _⟩
 case round=>
  obtain⟨k,hk,rfl,HNN,hnx⟩:=hrel;have hx2:=(hnx.block _ hs2).trans HXX.out;have d5:=Zaa hx2 5;simp at d5
  clear hx2;have BWR:Below w.heap.size w wr:=B2.trans (hnx.mono B2.size);by_cases hlt:k<D.near.length
  ·obtain ⟨n,hnk⟩:∃ n,D.near[k]? = some n:=⟨D.near[k],List.getElem?_eq_getElem hlt⟩
   obtain⟨g,off,cap',hve,hbb,c0,c1⟩:=HU.out.cells k n hnk;cases hve
   rw [<-hnx.cell (p:=⟨g,off+k*2,none⟩) hbb] at c0;rw [<-hnx.cell (p:=⟨g,off+k*2+1,none⟩) hbb] at c1;have hki:(0:Int)<=(k:Int):=by omega
   have hkj:(k:Int)<(D.near.length:Int):=by omega
   by_cases hzz:n.to=b
   ·have HF:=hide (HX.out.trans (ZnK hnk HNN.out hzz))
    rw [hzz] at c0;clear hnk hzz
    go_wp2
    go_ret
    exact⟨by rw [HF.out];rfl,BWR⟩
   ·have HN:=hide (Zje hnk HNN.out hzz)
    have hd:(n.to==b)=false:=by simpa using hzz
    clear hnk
    go_wp2
    go_roundw
    case rel=>exact ⟨k+1,by omega,by go_num,HN,hnx⟩
    case measure=>simp [intOf];omega
  ·have HF:=hide (HX.out.trans (Zma (by have h:=HNN.out;rw [List.take_of_length_le (by omega)] at h;exact h)))
   go_wp2
   go_ret
   exact⟨by rw [HF.out];rfl,BWR⟩
end Go.Proofs.YtadokhjefnkajaaGreat
