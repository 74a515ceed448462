/-
  Parts.
-/
import Derived.Test.YtdhnddfnckgbjaaGreatZi7
namespace Go.Proofs.YtdhnddfnckgbjaaGreat
open Go.RowKit
set_option linter.unusedSimpArgs false
set_option linter.unusedVariables false
set_option maxRecDepth 100000
set_option maxHeartbeats 8000000
variable {b n:Int}{xs:List LnD}{ns:List Nr}{x y:LnD}{k:Nat}{p q:QP}
def Zim (area node:Int):RecD:=⟨area,1,node,0,0,[],0,false⟩
def ZdR (xs:List RecD)(area node:Int):RecD:=Zi3 xs (Zim area node)
def ZkI (xs:List RecD)(area node:Int):Bool:=Zkr xs (Zim area node)
def Zg6 (ns:List Nr)(b:Int):Int:=match ns.find? (fun n=>n.to==b) with
 | some n=>n.c
 | none=>0
def Zgl (xs:List RecD)(area a b:Int):Int:=Zg6 (ZdR xs area a).near b
theorem ZlY (W:World)(B:Nat):ZaJ W (.slice none 0 0) [] B:=⟨none,0,rfl,.inl rfl⟩
theorem Zgg (v:Value)(ps:List RP)(hi:Nat)(area node:Int)(w:World)(hv:RecsIn w hi v ps)(hhi:hi<=w.heap.size)(hn:tot ps<=1048576):
  Calls Tryz.prog 119 #[v,.int .i64 area,.int .i64 node] w fun e w'=>∃ u,e=.returned (.tuple #[.agg (recC (ZdR (fsts ps) area node) u),.bool (ZkI (fsts ps) area node)])/\ZaJ w' u (ZdR (fsts ps) area node).near hi/\(ZdR (fsts ps) area node).near.length<=1048576/\Below w.heap.size w w':=by
 have hnl:=ZcB ps;obtain⟨a1,c1,rfl⟩:=Zac hv.row;have BX:Below w.heap.size w (w.alloc (.cells #[.int .i64 0,.int .i64 0,.int .i64 0,.int .i64 0,.int .i64 0,.slice none 0 0,.int .i64 0,.bool false] 132)):=(YAB _ _).alloc (YA _) _;have hq:=YAE w (.cells #[.int .i64 0,.int .i64 0,.int .i64 0,.int .i64 0,.int .i64 0,.slice none 0 0,.int .i64 0,.bool false] 132);obtain⟨w0,hw0⟩:∃ W,W=w.alloc (.cells #[.int .i64 0,.int .i64 0,.int .i64 0,.int .i64 0,.int .i64 0,.slice none 0 0,.int .i64 0,.bool false] 132):=⟨_,rfl⟩;rw [<-hw0] at BX hq;have hs0:=Zab hq;have HAT:=hide (ZnD (.slice a1 ps.length c1) ps hi (Zim area node,.slice none 0 0) w0 (hv.below BX hhi) (by have:=BX.size;omega) hn);unfold recC Zim at HAT;simp only [] at HAT;have HV:=hide hv;clear hv;unfold ZdR ZkI;obtain⟨nr,hnr⟩:∃ r,r=Zim area node:=⟨_,rfl⟩;rw [show (⟨area,1,node,0,0,[],0,false⟩:RecD)=nr from hnr.symm] at HAT;rw [<-hnr];clear hnr;rcases ZfD (fsts ps) nr with hz | ⟨j,y,hz,hy,_⟩
 ·obtain ⟨e1,e2⟩:=Zie hz;rw [e1,e2];rw [hz] at HAT;clear hz e1 e2;unfold recC
  go_enter Tryz.func119,Tryz.ntmps119
  go_wp2_with fail
  rw [<-hw0];clear hw0;refine HAT.out.mono ?_;rintro e w1 ⟨rfl,b1⟩;have B1:Below w.heap.size w w1:=BX.trans (b1.mono BX.size);have hz1:=(b1.block _ hs0).trans hq;clear b1 hq HAT;have u0:=Zaa hz1 0;have u1:=Zaa hz1 1;have u2:=Zaa hz1 2;have u3:=Zaa hz1 3;have u4:=Zaa hz1 4;have u5:=Zaa hz1 5;have u6:=Zaa hz1 6;have u7:=Zaa hz1 7;simp at u0 u1 u2 u3 u4 u5 u6 u7;have fu:=Zae hz1;have FF:=hide (Zoe Zb3 (.slice none 0 0) hz1);have G8:=hide (Zi4 w1 w.heap.size Zb3 (.slice none 0 0));clear hz1
  go_wp2_with fail
  (try simp only [Exit.inBlock,Exit.then])
  refine bodyPost_ret (Zcb rfl _ _ w.heap.size 132 (recC Zb3 (.slice none 0 0)) (0,0) _ rfl FF.out Tryz.underlying132 rfl (by kernel_rfl)) rfl ?_;exact⟨.slice none 0 0,rfl,ZlY _ _,(by simp [Zb3]),B1.grown G8.out B1.size (fun k hk=>by simp at hk;omega)⟩
 ·obtain ⟨e1,e2⟩:=ZlE hz hy;rw [e1,e2];obtain⟨t,htj,hty⟩:=Zku hy;have hjl:j<ps.length:=(YAD.1 htj).1;have hji:(0:Int)<=(j:Int):=by omega
  have hjj:(j:Int)<(ps.length:Int):=by omega
  have hj0:¬(j:Int)<0:=by omega
  rw [hz] at HAT;obtain⟨b,off,cp,hve,hbb,c0,c1,c2,c3,c4,c5,c6,c7,hnr⟩:=HV.out.at.cells j t htj;cases hve;have hbw:b<w.heap.size:=by omega
  obtain⟨pa,pc,hpn⟩:=ZaJ.shape hnr;rw [hpn] at c5 hnr;have HNL:=hide (show t.1.near.length<=1048576 by have:=ZjA (YAF htj);omega);have HNR:=hide hnr;subst hty;clear hz hy htj e1 e2 hpn hnr;unfold recC
  go_enter Tryz.func119,Tryz.ntmps119
  go_wp2_with fail
  rw [<-hw0];clear hw0;refine HAT.out.mono ?_;rintro e w1 ⟨rfl,b1⟩;have B1:Below w.heap.size w w1:=BX.trans (b1.mono BX.size);have hz1:=(b1.block _ hs0).trans hq;clear b1 hq HAT;replace c0:=(B1.cell hbw).trans c0;replace c1:=(B1.cell hbw).trans c1;replace c2:=(B1.cell hbw).trans c2;replace c3:=(B1.cell hbw).trans c3;replace c4:=(B1.cell hbw).trans c4;replace c5:=(B1.cell hbw).trans c5;replace c6:=(B1.cell hbw).trans c6;replace c7:=(B1.cell hbw).trans c7;obtain⟨z,hzz⟩:∃ z,z=w.heap.size:=⟨_,rfl⟩;rw [<-hzz] at hz1 |-;have HZ:=hide hzz;clear hzz;have u0:=Zaa hz1 0;have u1:=Zaa hz1 1;have u2:=Zaa hz1 2;have u3:=Zaa hz1 3;have u4:=Zaa hz1 4;have u5:=Zaa hz1 5;have u6:=Zaa hz1 6;have u7:=Zaa hz1 7;simp at u0 u1 u2 u3 u4 u5 u6 u7;have fu:=Zae hz1;have HZ1:=hide hz1;have FIN:∀ W,W=ZkO w1 z t.1 (.slice pa t.1.near.length pc)->ZaJ W (.slice pa t.1.near.length pc) t.1.near hi/\Below w.heap.size w W:=by
   intro W hW;have G8:=Zi4 w1 z t.1 (.slice pa t.1.near.length pc);rw [<-hW] at G8;have BF:Below w.heap.size w W:=B1.grown G8 B1.size (fun k hk=>by have:=HZ.out;simp at hk;omega);exact⟨Zau.later HNR.out BF hhi,BF⟩
  have HFIN:=hide FIN;clear hz1 FIN HNR B1 HV BX hs0 hjl hbb hbw
  go_wp2_with fail
  (try simp only [Exit.inBlock,Exit.then])
  refine bodyPost_ret (Zcb rfl _ _ z 132 (recC t.1 (.slice pa t.1.near.length pc)) (0,0) _ rfl (Zoe t.1 (.slice pa t.1.near.length pc) HZ1.out) Tryz.underlying132 rfl (by kernel_rfl)) rfl ?_;obtain⟨W5,hW5⟩:∃ W,W=ZkO w1 z t.1 (.slice pa t.1.near.length pc):=⟨_,rfl⟩;have h:=HFIN.out W5 hW5;subst hW5;exact⟨_,rfl,h.1,HNL.out,h.2⟩
theorem Zmr {n:Nr}(h:ns[k]? = some n)(hno:∀ q∈ns.take k,q.to≠b)(hb:n.to=b):Zg6 ns b=n.c:=by
 have e:ns.find? (fun x=>x.to==b)=some n:=by
  obtain⟨hk,e1⟩:=YAD.1 h;rw [List.find?_eq_some_iff_append];refine⟨by simpa using hb,ns.take k,ns.drop (k+1),?_,?_⟩
  ·rw [<-e1, <-YAp hk,List.take_append_drop]
  ·intro x hx;simpa using hno x hx
 unfold Zg6;rw [e]
theorem Zk2 (hno:∀ q∈ns,q.to≠b):Zg6 ns b=0:=by
 have e:ns.find? (fun x=>x.to==b)=none:=by
  rw [List.find?_eq_none];intro x hx;simpa using hno x hx
 unfold Zg6;rw [e]
theorem Zmp {n:Nr}(h:ns[k]? = some n)(hno:∀ q∈ns.take k,q.to≠b)(hz:n.to≠b):∀ q∈ns.take (k+1),q.to≠b:=by
 obtain⟨hk,e⟩:=YAD.1 h;rw [YAJ hk,e];intro q hq;rcases YAH.1 hq with h1 | h1
 ·exact hno q h1
 ·have:q=n:=by simpa using h1
  subst this;exact hz
theorem Zk0 (v:Value)(ps:List RP)(hi:Nat)(area a b:Int)(w:World)(hv:RecsIn w hi v ps)(hhi:hi<=w.heap.size)(hn:tot ps<=1048576):
  Calls Tryz.prog 127 #[v,.int .i64 area,.int .i64 a,.int .i64 b] w fun e w'=>e=.returned (.int .i64 (Zgl (fsts ps) area a b))/\Below w.heap.size w w':=by
 have HNO:=hide (Zgg v ps hi area a w hv hhi hn);obtain⟨a1,c1,rfl⟩:=Zac hv.row;clear hv;unfold Zgl;obtain⟨D,hD⟩:∃ D,D=ZdR (fsts ps) area a:=⟨_,rfl⟩;rw [<-hD] at HNO;rw [<-hD];clear hD;obtain⟨X,hX⟩:∃ X,X=Zg6 D.near b:=⟨_,rfl⟩;rw [<-hX];have HX:=hide hX;clear hX;unfold recC at HNO
 go_enter Tryz.func127,Tryz.ntmps127
 go_wp2_with fail
 refine HNO.out.mono ?_;rintro e w1 ⟨u,rfl,hu,hul,b1⟩;obtain⟨ua,uc,rfl⟩:=ZaJ.shape hu;have hx:=YAE w1 (.cells #[.int .i64 D.area,.int .i64 D.kind,.int .i64 D.owner,.int .i64 D.key,.int .i64 D.seq,.slice ua D.near.length uc,.int .i64 D.cost,.bool D.far] 132);have BX:Below w1.heap.size w1 (w1.alloc (.cells #[.int .i64 D.area,.int .i64 D.kind,.int .i64 D.owner,.int .i64 D.key,.int .i64 D.seq,.slice ua D.near.length uc,.int .i64 D.cost,.bool D.far] 132)):=(YAB _ _).alloc (YA _) _;obtain⟨w2,hw2⟩:∃ W,W=w1.alloc (.cells #[.int .i64 D.area,.int .i64 D.kind,.int .i64 D.owner,.int .i64 D.key,.int .i64 D.seq,.slice ua D.near.length uc,.int .i64 D.cost,.bool D.far] 132):=⟨_,rfl⟩;rw [<-hw2] at hx BX;have B2:Below w.heap.size w w2:=b1.trans (BX.mono b1.size);have HU:Hid (ZaJ w2 (.slice ua D.near.length uc) D.near w2.heap.size):=hide ((Zau.later hu BX (YAG hhi b1.size)).more (YAG hhi B2.size));have hs2:=Zab hx;have HXX:=hide hx;clear hu hx;go_wp2;rw [<-hw2];clear hw2
 go_loopw [11] (fun i wr=>∃ k:Nat,k<=D.near.length/\i=.int .i64 k/\Hid (∀ q∈D.near.take k,q.to≠b)/\Below w2.heap.size w2 wr) (fun i _=>D.near.length-(intOf i).toNat)
 case atStart=>exact ⟨0,by omega,rfl,hide (by simp),YAB _ _⟩
 case round=>
  obtain⟨k,hk,rfl,HNN,hnx⟩:=hrel;have hx2:=(hnx.block _ hs2).trans HXX.out;have d5:=Zaa hx2 5;simp at d5;clear hx2;have BWR:Below w.heap.size w wr:=B2.trans (hnx.mono B2.size);by_cases hlt:k<D.near.length
  ·obtain ⟨n,hnk⟩:∃ n,D.near[k]? = some n:=⟨D.near[k],YAA hlt⟩;obtain⟨g,off,cap',hve,hbb,c0,c1⟩:=HU.out.cells k n hnk;cases hve;replace c0:=(hnx.cell hbb).trans c0;replace c1:=(hnx.cell hbb).trans c1;have hki:(0:Int)<=(k:Int):=by omega
   have hkj:(k:Int)<(D.near.length:Int):=by omega
   by_cases hzz:n.to=b
   ·have HF:=hide (HX.out.trans (Zmr hnk HNN.out hzz));rw [hzz] at c0;clear hnk hzz;go_wp2;go_ret;exact⟨by rw [HF.out];rfl,BWR⟩
   ·have HN:=hide (Zmp hnk HNN.out hzz);have hd:(n.to==b)=false:=by simpa using hzz
    clear hnk;go_wp2;go_roundw
    case rel=>exact ⟨k+1,by omega,by go_num,HN,hnx⟩
    case measure=>simp [intOf];omega
  ·have HF:=hide (HX.out.trans (Zk2 (by have h:=HNN.out;rw [YAc (by omega)] at h;exact h)));go_wp2;go_ret;exact⟨by rw [HF.out];rfl,BWR⟩
def togI (x y:WayD):WayD:=if ZbQ x y then x else if ZbQ y x then y else ⟨x.to,x.cost,ZeV x.hops y.hops⟩
theorem ZgD (ps:List QP):ps.Pairwise Zdn↔(ps.map (·.2)).Pairwise (fun a b:Value=>∀ k,a.ownBlock=some k->b.ownBlock≠some k):=by
 rw [YAY];exact Iff.rfl
theorem Zlb {ps:List QP}(h:ps.Pairwise Zdn){i:Nat}(hi:ps[i]? = some p)(hk:ps[k]? = some q)(hne:i≠k):Zdn p q:=by
 obtain⟨h1,e1⟩:=YAD.1 hi;obtain⟨h2,e2⟩:=YAD.1 hk;rw [YAf] at h;rcases Nat.lt_or_ge i k with hl | hl
 ·have:=h i k h1 h2 hl;rw [e1,e2] at this;exact this
 ·have:=h k i h2 h1 (by omega);rw [e1,e2] at this;exact fun j hj he=>this j he hj
theorem ZnF {ps:List QP}(hk:ps[k]? = some p)(h:q.2=p.2):(ps.set k q).map (·.2)=ps.map (·.2):=by
 apply List.ext_getElem?;intro i;by_cases e:i=k
 ·subst e;obtain⟨h1,e1⟩:=YAD.1 hk;rw [YAZ,List.getElem?_set_self h1,YAZ,hk];simp [h]
 ·simp [List.getElem?_set_ne (Ne.symm e)]
theorem RtsOwn.turn {W W8:World}{lo hi g n cap:Nat}{xs:List QP}(h:RtsOwn W lo hi (.slice (some ⟨g,0,none⟩) n cap) xs)(hn:xs.length=n)(hk:xs[k]? = some p)(hq:q.2=p.2)
  (row:W8.ownsRow lo 57 6 (.slice (some ⟨g,0,none⟩) n cap) n (flat encQ (xs.set k q))) (near:W8.ownsRow lo 3 1 q.2 q.1.hops.length (flat intE q.1.hops))
  (hkeep:∀ j,j<W.heap.size->j≠g->some j≠p.2.ownBlock->W8.heap[j]? = W.heap[j]?):RtsOwn W8 lo hi (.slice (some ⟨g,0,none⟩) n cap) (xs.set k q) where
 row:=by rw [List.length_set,hn];exact row
 top:=h.top
 apart:=by rw [ZgD,ZnF hk hq, <-ZgD];exact h.apart
 nears:=by
  intro r hr;obtain⟨i,hi,e⟩:=List.getElem_of_mem hr;have hr2:(xs.set k q)[i]? = some r:=by rw [<-e];exact YAA hi
  by_cases ek:i=k
  ·subst ek;rw [List.getElem?_set_self (by simpa using hi)] at hr2;cases hr2;refine⟨near,?_⟩;rw [hq];exact (h.nears p (YAF hk)).2
  ·rw [List.getElem?_set_ne (Ne.symm ek)] at hr2;have ho:=h.nears r (YAF hr2);refine⟨Zai ho.1 (fun j hj=>?_),ho.2⟩;refine hkeep j (ho.1.lt j hj).2 ?_ ?_
   ·rintro rfl;obtain⟨cur,hh⟩:∃ cur,W.heap[j]? = some (.cells cur 57 (0,0)):=by
     rcases h.row.2 with ⟨h0,_⟩ | ⟨g',cap',cur',hv',_,hh',_⟩
     ·cases h0
     ·cases hv';exact⟨cur',hh'⟩
    rcases ho.1.2 with ⟨h0,_⟩ | ⟨g',cap',cur',hv',_,hh',_⟩
    ·rw [h0] at hj;simp [Value.ownBlock] at hj
    ·rw [hv'] at hj;simp [Value.ownBlock] at hj;subst hj;rw [hh] at hh';simp at hh'
   ·intro he;exact Zlb h.apart hr2 hk ek j hj he.symm
theorem Zdz (v:Value)(ps:List JP)(x:LnD)(u:Value)(w:World)(hv:Zb8 w v ps w.heap.size)(hn:ps.length<=1048576):
  Calls Tryz.prog 24 #[v,.agg (lnC x u)] w fun e w'=>e=.returned (.int .i64 (idxZ (Zag ps) x.thing x.to))/\Below w.heap.size w w':=by
 obtain⟨a,cap,rfl⟩:=hv.shape;obtain⟨R,hR⟩:∃ R,R=idxZ (Zag ps) x.thing x.to:=⟨_,rfl⟩;rw [<-hR];have HR:=hide hR;have HV:=hide hv;clear hR hv;unfold lnC
 go_enter Tryz.func24,Tryz.ntmps24
 go_wp2;have bw:=(YAB w.heap.size w).alloc (YA _) (.cells #[.bool x.thing,.int .i64 x.to,u] 39);have hb0:=YAE w (.cells #[.bool x.thing,.int .i64 x.to,u] 39);generalize w.alloc (.cells #[.bool x.thing,.int .i64 x.to,u] 39)=W0 at *;have l0:=Zab hb0;have HB0:=hide hb0;clear hb0
 go_loopw [5] (fun i wr=>∃ k:Nat,k<=ps.length/\i=.int .i64 k/\Hid (∀ y∈(Zag ps).take k,isLn x.thing x.to y=false)/\Below W0.heap.size W0 wr) (fun i _=>ps.length-(intOf i).toNat)
 case atStart=>exact ⟨0,by omega,rfl,hide (by simp),YAB _ _⟩
 case round=>
  obtain⟨k,hk,rfl,HNO,hnx⟩:=hrel;have bwr:Below w.heap.size w wr:=bw.trans (hnx.mono bw.size);by_cases hlt:k<ps.length
  ·obtain ⟨p,hp⟩:∃ p,ps[k]? = some p:=⟨ps[k],YAA hlt⟩;obtain⟨b,off,cp,hve,hbb,c0,c1,c2,_⟩:=HV.out.cells k p hp;cases hve;replace c0:=(bwr.cell hbb).trans c0;replace c1:=(bwr.cell hbb).trans c1;have hx:=(hnx.block _ l0).trans HB0.out;have x0:=Zaa hx 0;have x1:=Zaa hx 1;simp at x0 x1;have hki:(0:Int)<=(k:Int):=by omega
   have hkj:(k:Int)<(ps.length:Int):=by omega
   have hfk:=Zc7 hp;have HNX:=hide (fun (e:isLn x.thing x.to p.1=false)=>ZnL hfk HNO.out e);have HHIT:=hide (fun (e:isLn x.thing x.to p.1=true)=>HR.out.trans (Zm2 hfk e HNO.out));have HIS:=hide (show isLn x.thing x.to p.1=(p.1.thing==x.thing&&p.1.to==x.to) from rfl);clear hp hx hfk c2;obtain⟨p0,hp0⟩:∃ b,p.1.thing=b:=⟨_,rfl⟩;obtain⟨q0,hq0⟩:∃ b,x.thing=b:=⟨_,rfl⟩;obtain⟨p1,hp1⟩:∃ b,p.1.to=b:=⟨_,rfl⟩;obtain⟨q1,hq1⟩:∃ b,x.to=b:=⟨_,rfl⟩;rw [hp0] at c0;rw [hp1] at c1;rw [hq0] at x0;rw [hq1] at x1;have HIS2:=HIS.out;rw [hp0,hp1] at HIS2;obtain⟨T,hT⟩:∃ b,(p0==x.thing)=b:=⟨_,rfl⟩;have hT2:(p0==q0)=T:=by rw [<-hq0];exact hT
   cases T
   ·have HN:=hide (HNX.out (by rw [HIS2,hT];rfl));clear HIS2 hT HIS hp0 hq0 hp1 hq1;go_wp2
    go_quiet (fail)
    go_wp2;go_roundw
    case rel=>exact ⟨k+1,by omega,by go_num,HN,ZbP hnx _⟩
    case measure=>simp [intOf];omega
   ·by_cases h1:p1=q1
    ·have hd:(p1==q1)=true:=by simpa using h1
     have he:=HHIT.out (by rw [HIS2,hT,hq1,hd];rfl);subst he;clear HIS2 hT HIS hp0 hq0 hp1 hq1 h1;go_wp2
     go_quiet (fail)
     go_wp2;go_ret;exact⟨rfl,ZbP bwr _⟩
    ·have hd:(p1==q1)=false:=by simpa using h1
     have HN:=hide (HNX.out (by rw [HIS2,hT,hq1,hd];rfl));clear HIS2 hT HIS hp0 hq0 hp1 hq1 h1;go_wp2
     go_quiet (fail)
     go_wp2;go_roundw
     case rel=>exact ⟨k+1,by omega,by go_num,HN,ZbP hnx _⟩
     case measure=>simp [intOf];omega
  ·have hkn:k=ps.length:=by omega
   have he:R = -1:=HR.out.trans (ZlN (fun y hy=>by
    have:=HNO.out;rw [hkn,YAc (by simp [Zag])] at this;exact this y hy))
   subst he;clear hkn;go_wp2;go_ret;exact⟨rfl,bwr⟩
structure TnD where
 gone:Bool
 line:LnD
def keyB (x y:LnD):Bool:=y.thing==x.thing&&y.to==x.to
theorem Zfx :keyB x y=true↔y.thing=x.thing/\y.to=x.to:=by simp [keyB]
theorem Zdy (x:LnD):keyB x x=true:=by simp [keyB]
theorem ZbA :keyB x y=keyB y x:=by unfold keyB;rw [Bool.eq_iff_iff];simp;constructor <;> rintro ⟨h1,h2⟩ <;> exact ⟨h1.symm,h2.symm⟩
theorem ZeW {z:LnD}(h:keyB x y=true)(g:keyB y z=true):keyB x z=true:=by
 rw [Zfx] at *;exact⟨g.1.trans h.1,g.2.trans h.2⟩
def ZaP (xs:List LnD):Prop:=xs.Pairwise (fun a b=>keyB a b=false)
def hasK (xs:List LnD)(x:LnD):Bool:=xs.any (keyB x)
theorem Zes :hasK xs x=true↔∃ y∈xs,keyB x y=true:=by simp [hasK]
theorem Zd3 :hasK xs x=false↔∀ y∈xs,keyB x y=false:=by simp [hasK]
theorem ZaP.one (h:ZaP xs):∀ {x y:LnD},x∈xs->y∈xs->keyB x y=true->x=y:=by
 induction xs with
 | nil=>intro x y hx;cases hx
 | cons z zs ih=>
  intro x y hx hy hk;unfold ZaP at h;rw [YAh] at h;rcases YAR.1 hx with rfl | hx2
  ·rcases YAR.1 hy with rfl | hy2
   ·rfl
   ·have:=h.1 y hy2;rw [hk] at this;cases this
  ·rcases YAR.1 hy with rfl | hy2
   ·have:=h.1 x hx2;rw [ZbA,hk] at this;cases this
   ·exact ih h.2 hx2 hy2 hk
theorem ZaP.nodup (h:ZaP xs):xs.Nodup:=by
 unfold List.Nodup;refine List.Pairwise.imp ?_ h;intro a b hab e;subst e;rw [Zdy] at hab;cases hab
def Zbn (a b:List LnD):List TnD:=(a.filter (fun x => !hasK b x)).map (fun x=>⟨true,⟨x.thing,x.to,[]⟩⟩)++(b.filter (fun x => !a.contains x)).map (fun x=>⟨false,x⟩)
def ZdJ (n:Int)(st:List (Int × LnD))(k:Nat)(t:TnD):List (Int × LnD):=
 if t.gone then st.filter (fun p => !keyB t.line p.2)
 else match st.find? (fun p=>keyB t.line p.2) with
  | some p=>st.map (fun q=>if keyB t.line q.2 then (p.1,t.line) else q)
  | none=>st++[(n+(k:Int),t.line)]
def Zbm (n:Int):List (Int × LnD)->Nat->List TnD->List (Int × LnD)
 | st,_,[]=>st
 | st,k,t::ts=>Zbm n (ZdJ n st k t) (k+1) ts
theorem Zdi (n:Int):∀ (ts us:List TnD) (st:List (Int × LnD)) (k:Nat),Zbm n st k (ts++us)=Zbm n (Zbm n st k ts) (k+ts.length) us
 | [],us,st,k=>by simp [Zbm]
 | t::ts,us,st,k=>by
  simp only [List.cons_append,Zbm,YAd];rw [Zdi n ts us];congr 1;omega
def ZaV (st:List (Int × LnD)):List LnD:=st.map (·.2)
theorem ZgO {st:List (Int × LnD)}(h:st.find? (fun p=>keyB x p.2)=none):∀ y∈ZaV st,keyB x y=false:=by
 intro y hy;obtain⟨p,hp,rfl⟩:=YAV.1 hy;have:=List.find?_eq_none.1 h p hp;simpa using this
theorem ZjT (n:Int):∀ (gs:List LnD) (st:List (Int × LnD)) (k:Nat) (y:LnD),y∈ZaV (Zbm n st k (gs.map (fun x=>⟨true,⟨x.thing,x.to,[]⟩⟩)))↔y∈ZaV st/\hasK gs y=false
 | [],st,k,y=>by simp [Zbm,hasK]
 | g::gs,st,k,y=>by
  simp only [List.map_cons,Zbm];rw [ZjT n gs];unfold ZdJ ZaV;simp only [if_true,YAV,YAT];constructor
  ·rintro ⟨⟨p,⟨hp,h1⟩,rfl⟩,h2⟩;refine⟨⟨p,hp,rfl⟩,?_⟩;simp only [hasK,List.any_cons,Bool.or_eq_false_iff] at h2 |-
   refine⟨?_,h2⟩;have:keyB g p.2=false:=by
    rw [show keyB g p.2=keyB ⟨g.thing,g.to,[]⟩ p.2 from rfl];simpa using h1
   rw [ZbA];exact this
  ·rintro ⟨⟨p,hp,rfl⟩,h2⟩;simp only [hasK,List.any_cons,Bool.or_eq_false_iff] at h2;refine⟨⟨p,⟨hp,?_⟩,rfl⟩,h2.2⟩;have:keyB g p.2=false:=by rw [ZbA];exact h2.1
   rw [show keyB g p.2=keyB ⟨g.thing,g.to,[]⟩ p.2 from rfl] at this;simpa using this
theorem ZiK {st:List (Int × LnD)}(y:LnD):y∈ZaV (ZdJ n st k ⟨false,x⟩)↔y=x\/(y∈ZaV st/\keyB x y=false):=by
 unfold ZdJ;simp only [Bool.false_eq_true,if_false];cases hf:st.find? (fun p=>keyB x p.2) with
 | none=>
  simp only [ZaV,YAW,List.map_cons,List.map_nil,YAH,YAl];have h0:=ZgO hf;constructor
  ·rintro (h | h)
   ·exact .inr ⟨h,h0 y h⟩
   ·exact .inl h
  ·rintro (h | h)
   ·exact .inr h
   ·exact .inl h.1
 | some p=>
  have hp:=List.find?_some hf;have hpm:=List.mem_of_find?_eq_some hf;simp only [ZaV,YAa,YAV,Function.comp];constructor
  ·rintro ⟨q,hq,rfl⟩;by_cases hk:keyB x q.2=true
   ·rw [if_pos hk];exact .inl rfl
   ·rw [if_neg hk];exact .inr ⟨⟨q,hq,rfl⟩,by simpa using hk⟩
  ·rintro (rfl | ⟨⟨q,hq,rfl⟩,hk⟩)
   ·exact ⟨p,hpm,by rw [if_pos (by simpa using hp)]⟩
   ·exact ⟨q,hq,by rw [if_neg (by rw [hk];decide)]⟩
theorem Zl8 (n:Int):∀ (ps:List LnD) (st:List (Int × LnD)) (k:Nat) (y:LnD),ZaP ps->(y∈ZaV (Zbm n st k (ps.map (fun x=>⟨false,x⟩)))↔y∈ps\/(y∈ZaV st/\hasK ps y=false))
 | [],st,k,y,_=>by simp [Zbm,hasK]
 | p::ps,st,k,y,h=>by
  unfold ZaP at h;rw [YAh] at h;simp only [List.map_cons,Zbm];rw [Zl8 n ps _ _ y h.2,ZiK];simp only [hasK,List.any_cons,Bool.or_eq_false_iff,YAR];constructor
  ·rintro (h1 | ⟨rfl | ⟨h1,h2⟩,h3⟩)
   ·exact .inl (.inr h1)
   ·exact .inl (.inl rfl)
   ·exact .inr ⟨h1,by rw [ZbA];exact h2,h3⟩
  ·rintro ((rfl | h1) | ⟨h1,h2,h3⟩)
   ·by_cases hm:y∈ps
    ·exact .inl hm
    ·refine .inr ⟨.inl rfl,?_⟩;exact Zd3.2 h.1
   ·exact .inl h1
   ·exact .inr ⟨.inr ⟨h1,by rw [ZbA];exact h2⟩,h3⟩
theorem Zhb {st:List (Int × LnD)}{t:TnD}(h:ZaP (ZaV st)):ZaP (ZaV (ZdJ n st k t)):=by
 unfold ZdJ
 split
 ·unfold ZaV ZaP at *;rw [YAY] at *;exact h.filter _
 ·split
  ·rename_i p hp
   unfold ZaV ZaP at *;rw [YAa,YAY];rw [YAY] at h;refine h.imp ?_;intro x y hxy;simp only [Function.comp];by_cases h1:keyB t.line x.2=true
   ·by_cases h2:keyB t.line y.2=true
    ·exfalso;have:keyB x.2 y.2=true:=ZeW (by rw [ZbA];exact h1) h2;rw [hxy] at this;cases this
    ·rw [if_pos h1,if_neg h2];simpa using h2
   ·by_cases h2:keyB t.line y.2=true
    ·rw [if_neg h1,if_pos h2];rw [ZbA];simpa using h1
    ·rw [if_neg h1,if_neg h2];exact hxy
  ·rename_i hf
   have h0:=ZgO hf;unfold ZaV ZaP at *;rw [YAW,YAP];refine⟨h,by simp,?_⟩;intro x hx y hy;have:y=t.line:=by simpa using hy
   subst this;rw [ZbA];exact h0 x hx
theorem ZcC :∀ (ts:List TnD) (st:List (Int × LnD)) (k:Nat),ZaP (ZaV st)->ZaP (ZaV (Zbm n st k ts))
 | [],_,_,h=>h
 | t::ts,st,k,h=>ZcC ts _ _ (Zhb h)
def ZbI (a:List LnD):List (Int × LnD):=a.zipIdx.map (fun p=>((p.2:Int),p.1))
theorem ZcL (a:List LnD):ZaV (ZbI a)=a:=by
 unfold ZaV ZbI;rw [YAa];show a.zipIdx.map (fun p=>p.1)=a;exact List.zipIdx_map_fst 0 a
theorem Zia {a b:List LnD}(ha:ZaP a)(hb:ZaP b):(ZaV (Zbm (a.length:Int) (ZbI a) 0 (Zbn a b))).Perm b:=by
 rw [List.perm_ext_iff_of_nodup]
 rotate_left
 ·exact (ZcC _ _ _ (by rw [ZcL];exact ha)).nodup
 ·exact hb.nodup
 intro y;unfold Zbn;rw [Zdi,Zl8 _ _ _ _ _ (hb.filter _),ZjT,ZcL];simp only [YAT];constructor
 ·rintro (h | ⟨⟨hy,h1⟩,h2⟩)
  ·exact h.1
  ·have hk:hasK b y=true:=by
    cases hh:hasK b y with
    | true=>rfl
    | false=>
     exfalso;have:=Zd3.1 h1 y (YAT.2 ⟨hy,by rw [hh];rfl⟩);rw [Zdy] at this;cases this
   obtain⟨z,hz,hyz⟩:=Zes.1 hk;by_cases hza:a.contains z=true
   ·have hz2:z∈a:=by simpa using hza
    rw [ha.one hy hz2 hyz];exact hz
   ·exfalso;have:=Zd3.1 h2 z (YAT.2 ⟨hz,by simpa using hza⟩);rw [hyz] at this;cases this
 ·intro hy;by_cases hya:a.contains y=true
  ·have hy2:y∈a:=by simpa using hya
   refine .inr ⟨⟨hy2,?_⟩,?_⟩
   ·refine Zd3.2 fun z hz=>?_;obtain⟨hz1,hz2⟩:=YAT.1 hz;cases hh:keyB y z with
    | false=>rfl
    | true=>
     exfalso;have e:=ha.one hy2 hz1 hh;subst e;have:hasK b y=true:=Zes.2 ⟨y,hy,Zdy y⟩;rw [this] at hz2;cases hz2
   ·refine Zd3.2 fun z hz=>?_;obtain⟨hz1,hz2⟩:=YAT.1 hz;cases hh:keyB y z with
    | false=>rfl
    | true=>
     exfalso;have e:=hb.one hy hz1 hh;subst e;rw [hya] at hz2;cases hz2
  ·exact .inl ⟨hy,by simpa using hya⟩
theorem Zi0 (a:List LnD):Zbn a a=[]:=by
 unfold Zbn;rw [List.append_eq_nil_iff];constructor
 ·rw [List.map_eq_nil_iff,List.filter_eq_nil_iff];intro x hx;have:hasK a x=true:=Zes.2 ⟨x,hx,Zdy x⟩;simp [this]
 ·rw [List.map_eq_nil_iff,List.filter_eq_nil_iff];intro x hx;simp [hx]
theorem Zjo (v:Value)(u:Option Addr)(uc:Nat)(ps:List JP)(lo hi:Nat)(w:World)(hv:LnsOwn w lo hi v ps)(hhi:hi<=w.heap.size)(hn:totJ ps<=1048576):
  Calls Tryz.prog 31 #[v,.slice u 0 uc] w fun e w'=>∃ o qs,e=.returned o/\Zag qs=Zag ps/\LnsOwn w' w.heap.size w'.heap.size o qs/\Below w.heap.size w w':=by
 have hnl:=Zbj ps;obtain⟨a1,c1,rfl⟩:=Zac hv.row;have HV:=hide hv;clear hv
 go_enter Tryz.func31,Tryz.ntmps31
 go_wp2;have b3:=(YAB w.heap.size w).alloc (YA _) (.cells #[] 39);have o3:LnsOwn (w.alloc (.cells #[] 39)) w.heap.size (w.alloc (.cells #[] 39)).heap.size (.slice (some ⟨w.heap.size,0,none⟩) 0 0) []:=by
  have h1:(w.alloc (.cells #[] 39)).ownsRow w.heap.size 39 3 (.slice (some ⟨w.heap.size,0,none⟩) 0 0) 0 (flat encJ []):=YAU w #[] 0 (YA _) (by unfold maxLen;omega) (by simp);exact⟨h1,fun k hk=>(h1.lt k hk).2,by simp,by simp⟩
 generalize w.alloc (.cells #[] 39)=W3 at *;have B3:=hide b3;have O3:=hide o3;clear b3 o3
 go_loopw [5,6] (fun s i wr=>∃ (k:Nat) (ys:List JP) (ya:Option Addr) (yc:Nat),k<=ps.length/\i=.int .i64 (k:Int)/\s=.slice ya ys.length yc/\Hid (Zag ys=Zag (ps.take k))/\ys.length=k/\Hid (LnsOwn wr w.heap.size wr.heap.size (.slice ya ys.length yc) ys)/\Below w.heap.size w wr) (fun _ i _=>ps.length-(intOf i).toNat)
 case atStart=>exact ⟨0,[],_,0,by omega,rfl,rfl,hide (by simp [Zag]),by simp,O3,B3.out⟩
 case round=>
  obtain⟨k,ys,ya,yc,hk,rfl,rfl,HYS,hyl,HYO,hnx⟩:=hrel;have HYL:=hide hyl;have hyl2:ys.length<=k:=by omega
  clear hyl;have hsz:=hnx.size;by_cases hlt:k<ps.length
  ·obtain ⟨p,hp⟩:∃ p,ps[k]? = some p:=⟨ps[k],YAA hlt⟩;obtain⟨b,off,cp,hve,hbb,d0,d1,d2,hh⟩:=HV.out.at.cells k p hp;cases hve;have hbw:b<w.heap.size:=by omega
   have hno:=(HV.out.nears p (YAF hp)).1;obtain⟨ha,hc,hpe⟩:=Zac hno;rw [hpe] at d2 hno;replace d0:=(hnx.cell hbw).trans d0;replace d1:=(hnx.cell hbw).trans d1;replace d2:=(hnx.cell hbw).trans d2;have hki:(0:Int)<=(k:Int):=by omega
   have hkj:(k:Int)<(ps.length:Int):=by omega
   have hpl:p.1.hops.length<=1048576:=by have:=ZbO (YAF hp);omega
   have HMP:=hide (show Zag (ps.take (k+1))=Zag (ps.take k)++[p.1] by unfold Zag;exact ZlU hp);have HC:=hide (fun W (hb:Below w.heap.size w W)=>Zem p.1 (.slice ha p.1.hops.length hc) lo W (Zad hno hb (YA _)) hpl);unfold lnC at HC;clear hp hpe hh hno
   go_wp2_with fail
   refine (HC.out _ hnx).mono ?_;rintro e w7 ⟨v7,rfl,hn7,b7⟩;obtain⟨n7a,n7c,rfl⟩:=Zac hn7;have b7s:=b7.size
   go_wp2_with (first
    | (at_builtin;refine Zay Zb6 (by omega) (by omega) _ rfl _ _ 24 rfl w.heap.size 39 Tryz.underlying24 (.agg (lnC ZdW (.slice none 0 0))) rfl Tryz.infoLine _ ys (p.1,.slice n7a p.1.hops.length n7c) (Zfs _ _ _ _) rfl ((Zad HYO.out.row b7 (YA _)).alloc _) ⟨w7.heap.size,0,none⟩ 1 rfl (Zak (cs:=encJ (p.1,.slice n7a p.1.hops.length n7c))) (by omega) (by simp;omega) ?_))
   intro v' w8 hown' hgrow;have ow8:=HYO.out.push (p:=(p.1,.slice n7a p.1.hops.length n7c)) (b7.alloc b7.size _) (by omega) (ZaW.wide (ZaW.keep ⟨Zaf hn7 (by omega),fun k hk=>(hn7.lt k hk).2⟩ (fun j _ _ h3=>YAI _ _ _ h3)) (YA _) (by simp)) (by simpa using hown') hgrow;have hl8:(ys++[(p.1,Value.slice n7a p.1.hops.length n7c)]).length=ys.length+1:=by simp
   have hb8:Below w.heap.size w w8:=((hnx.trans (b7.mono hsz)).alloc (by omega) _).grown hgrow (by simp;omega) (fun k hk=>(HYO.out.row.lt k hk).1);obtain⟨va,vc,hve⟩:=Zac ow8.row;rw [hl8] at hve;subst hve;have OW8:=hide (show LnsOwn w8 w.heap.size w8.heap.size (.slice va (ys++[(p.1,Value.slice n7a p.1.hops.length n7c)]).length vc) (ys++[(p.1,Value.slice n7a p.1.hops.length n7c)]) by rw [hl8];exact ow8);have HY8:=hide (show Zag (ys++[(p.1,Value.slice n7a p.1.hops.length n7c)])=Zag (ps.take (k+1)) by rw [HMP.out, <-HYS.out];simp [Zag]);have HRF:=hide (show Value.slice va (ys.length+1) vc=.slice va (ys++[(p.1,Value.slice n7a p.1.hops.length n7c)]).length vc by rw [hl8]);clear ow8 hown' hgrow hn7 HYO HYS HMP HC hl8;go_wp2;go_roundw
   case rel=>exact ⟨k+1,ys++[(p.1,.slice n7a p.1.hops.length n7c)],va,vc,by omega,by go_num,HRF.out,HY8,by have:=HYL.out;simp;omega,OW8,hb8⟩
   case measure=>simp [intOf];omega
  ·have hlt':¬(k:Int)<(ps.length:Int):=by omega
   have HF:=hide (show Zag ys=Zag ps by have h:=HYS.out;rw [YAc (by omega)] at h;exact h);obtain⟨wo,rfl⟩:∃ wo:World,wo=wr:=⟨_,rfl⟩;clear hlt hk HYS HYL;go_wp2;refine wp_loop_rounds 1 ?_;rw [rounds_succ];go_wp2;go_ret
   first | exact ⟨_,ys,rfl,HF.out,HYO.out,hnx⟩ | exact ⟨ys,HF.out,HYO.out,hnx⟩
end Go.Proofs.YtdhnddfnckgbjaaGreat
