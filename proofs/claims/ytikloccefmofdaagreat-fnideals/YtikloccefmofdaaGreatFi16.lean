/-
  Parts.
-/
import Derived.Test.YtikloccefmofdaaGreatFi13
import Derived.Test.YtikloccefmofdaaGreatFi12
namespace Go.Proofs.YtikloccefmofdaaGreat
open Go.RowKit
set_option linter.unusedSimpArgs false
set_option linter.unusedVariables false
set_option maxRecDepth 100000
set_option maxHeartbeats 8000000
variable {b:Int}{ns:List Nr}{k:Nat}{p q:QP}
def ZeL (area node:Int):RecD:=⟨area,1,node,0,0,[],0,false⟩
def Zcd (xs:List RecD)(area node:Int):RecD:=ZeZ xs (ZeL area node)
def Zdt (xs:List RecD)(area node:Int):Bool:=ZdY xs (ZeL area node)
def Zgy (ns:List Nr)(b:Int):Int:=match ns.find? (fun n=>n.to==b) with
 | some n=>n.c
 | none=>0
def Zc8 (xs:List RecD)(area a b:Int):Int:=Zgy (Zcd xs area a).near b
def Zlq (xs:List RecD)(area a b:Int):Int:=if Zc8 xs area b a=0 then 0 else Zc8 xs area a b
theorem ZoW (W:World)(B:Nat):Zat W (.slice none 0 0) [] B:=⟨none,0,rfl,.inl rfl⟩
theorem Zhy (v:Value)(ps:List RP)(hi:Nat)(area node:Int)(w:World)(hv:RecsIn w hi v ps)(hhi:hi<=w.heap.size)(hn:tot ps<=1048576):
  Calls Tryz.prog 117 #[v,.int .i64 area,.int .i64 node] w fun e w'=>∃ u,e=.returned (.tuple #[.agg (recC (Zcd (fsts ps) area node) u),.bool (Zdt (fsts ps) area node)])/\Zat w' u (Zcd (fsts ps) area node).near hi/\(Zcd (fsts ps) area node).near.length<=1048576/\Below w.heap.size w w':=by
 have hnl:=Zbj ps;obtain⟨a1,c1,rfl⟩:=Zac hv.row;have BX:Below w.heap.size w (w.alloc (.cells #[.int .i64 0,.int .i64 0,.int .i64 0,.int .i64 0,.int .i64 0,.slice none 0 0,.int .i64 0,.bool false] 37)):=(YAC _ _).alloc (YA _) _;have hq:=YAE w (.cells #[.int .i64 0,.int .i64 0,.int .i64 0,.int .i64 0,.int .i64 0,.slice none 0 0,.int .i64 0,.bool false] 37);obtain⟨w0,hw0⟩:∃ W,W=w.alloc (.cells #[.int .i64 0,.int .i64 0,.int .i64 0,.int .i64 0,.int .i64 0,.slice none 0 0,.int .i64 0,.bool false] 37):=⟨_,rfl⟩;rw [<-hw0] at BX hq;have hs0:=Zab hq;have HAT:=hide (Zra (.slice a1 ps.length c1) ps hi (ZeL area node,.slice none 0 0) w0 (hv.below BX hhi) (by have:=BX.size;omega) hn);unfold recC ZeL at HAT;simp only [] at HAT;have HV:=hide hv;clear hv;unfold Zcd Zdt;obtain⟨nr,hnr⟩:∃ r,r=ZeL area node:=⟨_,rfl⟩;rw [show (⟨area,1,node,0,0,[],0,false⟩:RecD)=nr from hnr.symm] at HAT;rw [<-hnr];clear hnr;rcases ZcY (fsts ps) nr with hz | ⟨j,y,hz,hy,_⟩
 ·obtain ⟨e1,e2⟩:=Zfv hz;rw [e1,e2];rw [hz] at HAT;clear hz e1 e2;unfold recC
  go_enter Tryz.func117,Tryz.ntmps117
  go_wp2_with fail
  rw [<-hw0];clear hw0;refine HAT.out.mono ?_;rintro e w1 ⟨rfl,b1⟩;have B1:Below w.heap.size w w1:=BX.trans (b1.mono BX.size);have hz1:=(b1.block _ hs0).trans hq;clear b1 hq HAT;have u0:=Zaa hz1 0;have u1:=Zaa hz1 1;have u2:=Zaa hz1 2;have u3:=Zaa hz1 3;have u4:=Zaa hz1 4;have u5:=Zaa hz1 5;have u6:=Zaa hz1 6;have u7:=Zaa hz1 7;simp at u0 u1 u2 u3 u4 u5 u6 u7;have fu:=Zae hz1;have FF:=hide (ZrO Za9 (.slice none 0 0) hz1);have G8:=hide (Zla w1 w.heap.size Za9 (.slice none 0 0));clear hz1
  go_wp2_with fail
  (try simp only [Exit.inBlock,Exit.then])
  refine bodyPost_ret (ZcJ rfl _ _ w.heap.size 37 (recC Za9 (.slice none 0 0)) (0,0) _ rfl FF.out Tryz.underlying37 rfl (by kernel_rfl)) rfl ?_;exact⟨.slice none 0 0,rfl,ZoW _ _,(by simp [Za9]),B1.grown G8.out B1.size (fun k hk=>by simp at hk;omega)⟩
 ·obtain ⟨e1,e2⟩:=Zi2 hz hy;rw [e1,e2];obtain⟨t,htj,hty⟩:=Zh4 hy;have hjl:j<ps.length:=(YAD.1 htj).1;have hji:(0:Int)<=(j:Int):=by omega
  have hjj:(j:Int)<(ps.length:Int):=by omega
  have hj0:¬(j:Int)<0:=by omega
  rw [hz] at HAT;obtain⟨b,off,cp,hve,hbb,c0,c1,c2,c3,c4,c5,c6,c7,hnr⟩:=HV.out.at.cells j t htj;cases hve;have hbw:b<w.heap.size:=by omega
  obtain⟨pa,pc,hpn⟩:=Zat.shape hnr;rw [hpn] at c5 hnr;have HNL:=hide (show t.1.near.length<=1048576 by have:=Zem (YAG htj);omega);have HNR:=hide hnr;subst hty;clear hz hy htj e1 e2 hpn hnr;unfold recC
  go_enter Tryz.func117,Tryz.ntmps117
  go_wp2_with fail
  rw [<-hw0];clear hw0;refine HAT.out.mono ?_;rintro e w1 ⟨rfl,b1⟩;have B1:Below w.heap.size w w1:=BX.trans (b1.mono BX.size);have hz1:=(b1.block _ hs0).trans hq;clear b1 hq HAT;replace c0:=(B1.cell hbw).trans c0;replace c1:=(B1.cell hbw).trans c1;replace c2:=(B1.cell hbw).trans c2;replace c3:=(B1.cell hbw).trans c3;replace c4:=(B1.cell hbw).trans c4;replace c5:=(B1.cell hbw).trans c5;replace c6:=(B1.cell hbw).trans c6;replace c7:=(B1.cell hbw).trans c7;obtain⟨z,hzz⟩:∃ z,z=w.heap.size:=⟨_,rfl⟩;rw [<-hzz] at hz1 |-;have HZ:=hide hzz;clear hzz;have u0:=Zaa hz1 0;have u1:=Zaa hz1 1;have u2:=Zaa hz1 2;have u3:=Zaa hz1 3;have u4:=Zaa hz1 4;have u5:=Zaa hz1 5;have u6:=Zaa hz1 6;have u7:=Zaa hz1 7;simp at u0 u1 u2 u3 u4 u5 u6 u7;have fu:=Zae hz1;have HZ1:=hide hz1;have FIN:∀ W,W=Zny w1 z t.1 (.slice pa t.1.near.length pc)->Zat W (.slice pa t.1.near.length pc) t.1.near hi/\Below w.heap.size w W:=by
   intro W hW;have G8:=Zla w1 z t.1 (.slice pa t.1.near.length pc);rw [<-hW] at G8;have BF:Below w.heap.size w W:=B1.grown G8 B1.size (fun k hk=>by have:=HZ.out;simp at hk;omega);exact⟨Zav.later HNR.out BF hhi,BF⟩
  have HFIN:=hide FIN;clear hz1 FIN HNR B1 HV BX hs0 hjl hbb hbw
  go_wp2_with fail
  (try simp only [Exit.inBlock,Exit.then])
  refine bodyPost_ret (ZcJ rfl _ _ z 37 (recC t.1 (.slice pa t.1.near.length pc)) (0,0) _ rfl (ZrO t.1 (.slice pa t.1.near.length pc) HZ1.out) Tryz.underlying37 rfl (by kernel_rfl)) rfl ?_;obtain⟨W5,hW5⟩:∃ W,W=Zny w1 z t.1 (.slice pa t.1.near.length pc):=⟨_,rfl⟩;have h:=HFIN.out W5 hW5;subst hW5;exact⟨_,rfl,h.1,HNL.out,h.2⟩
theorem ZpF {n:Nr}(h:ns[k]? = some n)(hno:∀ q∈ns.take k,q.to≠b)(hb:n.to=b):Zgy ns b=n.c:=by
 have e:ns.find? (fun x=>x.to==b)=some n:=by
  obtain⟨hk,e1⟩:=YAD.1 h;rw [List.find?_eq_some_iff_append];refine⟨by simpa using hb,ns.take k,ns.drop (k+1),?_,?_⟩
  ·rw [<-e1, <-YAl hk,YAc]
  ·intro x hx;simpa using hno x hx
 unfold Zgy;rw [e]
theorem ZnM (hno:∀ q∈ns,q.to≠b):Zgy ns b=0:=by
 have e:ns.find? (fun x=>x.to==b)=none:=by
  rw [List.find?_eq_none];intro x hx;simpa using hno x hx
 unfold Zgy;rw [e]
theorem ZkE {n:Nr}(h:ns[k]? = some n)(hno:∀ q∈ns.take k,q.to≠b)(hz:n.to≠b):∀ q∈ns.take (k+1),q.to≠b:=by
 obtain⟨hk,e⟩:=YAD.1 h;rw [YAI hk,e];intro q hq;rcases YAF.1 hq with h1 | h1
 ·exact hno q h1
 ·have:q=n:=by simpa using h1
  subst this;exact hz
theorem ZnL (v:Value)(ps:List RP)(hi:Nat)(area a b:Int)(w:World)(hv:RecsIn w hi v ps)(hhi:hi<=w.heap.size)(hn:tot ps<=1048576):
  Calls Tryz.prog 147 #[v,.int .i64 area,.int .i64 a,.int .i64 b] w fun e w'=>e=.returned (.int .i64 (Zc8 (fsts ps) area a b))/\Below w.heap.size w w':=by
 have HNO:=hide (Zhy v ps hi area a w hv hhi hn);obtain⟨a1,c1,rfl⟩:=Zac hv.row;clear hv;unfold Zc8;obtain⟨D,hD⟩:∃ D,D=Zcd (fsts ps) area a:=⟨_,rfl⟩;rw [<-hD] at HNO;rw [<-hD];clear hD;obtain⟨X,hX⟩:∃ X,X=Zgy D.near b:=⟨_,rfl⟩;rw [<-hX];have HX:=hide hX;clear hX;unfold recC at HNO
 go_enter Tryz.func147,Tryz.ntmps147
 go_wp2_with fail
 refine HNO.out.mono ?_;rintro e w1 ⟨u,rfl,hu,hul,b1⟩;obtain⟨ua,uc,rfl⟩:=Zat.shape hu;have hx:=YAE w1 (.cells #[.int .i64 D.area,.int .i64 D.kind,.int .i64 D.owner,.int .i64 D.key,.int .i64 D.seq,.slice ua D.near.length uc,.int .i64 D.cost,.bool D.far] 37);have BX:Below w1.heap.size w1 (w1.alloc (.cells #[.int .i64 D.area,.int .i64 D.kind,.int .i64 D.owner,.int .i64 D.key,.int .i64 D.seq,.slice ua D.near.length uc,.int .i64 D.cost,.bool D.far] 37)):=(YAC _ _).alloc (YA _) _;obtain⟨w2,hw2⟩:∃ W,W=w1.alloc (.cells #[.int .i64 D.area,.int .i64 D.kind,.int .i64 D.owner,.int .i64 D.key,.int .i64 D.seq,.slice ua D.near.length uc,.int .i64 D.cost,.bool D.far] 37):=⟨_,rfl⟩;rw [<-hw2] at hx BX;have B2:Below w.heap.size w w2:=b1.trans (BX.mono b1.size);have HU:Hid (Zat w2 (.slice ua D.near.length uc) D.near w2.heap.size):=hide ((Zav.later hu BX (YAK hhi b1.size)).more (YAK hhi B2.size));have hs2:=Zab hx;have HXX:=hide hx;clear hu hx;go_wp2;rw [<-hw2];clear hw2
 go_loopw [11] (fun i wr=>∃ k:Nat,k<=D.near.length/\i=.int .i64 k/\Hid (∀ q∈D.near.take k,q.to≠b)/\Below w2.heap.size w2 wr) (fun i _=>D.near.length-(intOf i).toNat)
 case atStart=>exact ⟨0,by omega,rfl,hide (by simp),YAC _ _⟩
 case round=>
  obtain⟨k,hk,rfl,HNN,hnx⟩:=hrel;have hx2:=(hnx.block _ hs2).trans HXX.out;have d5:=Zaa hx2 5;simp at d5;clear hx2;have BWR:Below w.heap.size w wr:=B2.trans (hnx.mono B2.size);by_cases hlt:k<D.near.length
  ·obtain ⟨n,hnk⟩:∃ n,D.near[k]? = some n:=⟨D.near[k],YAA hlt⟩;obtain⟨g,off,cap',hve,hbb,c0,c1⟩:=HU.out.cells k n hnk;cases hve;replace c0:=(hnx.cell hbb).trans c0;replace c1:=(hnx.cell hbb).trans c1;have hki:(0:Int)<=(k:Int):=by omega
   have hkj:(k:Int)<(D.near.length:Int):=by omega
   by_cases hzz:n.to=b
   ·have HF:=hide (HX.out.trans (ZpF hnk HNN.out hzz));rw [hzz] at c0;clear hnk hzz;go_wp2;go_ret;exact⟨by rw [HF.out];rfl,BWR⟩
   ·have HN:=hide (ZkE hnk HNN.out hzz);have hd:(n.to==b)=false:=by simpa using hzz
    clear hnk;go_wp2;go_roundw
    case rel=>exact ⟨k+1,by omega,by go_num,HN,hnx⟩
    case measure=>simp [intOf];omega
  ·have HF:=hide (HX.out.trans (ZnM (by have h:=HNN.out;rw [YAL (by omega)] at h;exact h)));go_wp2;go_ret;exact⟨by rw [HF.out];rfl,BWR⟩
def ZaJ:List Int->List (Int × Int)
 | a::b::l=>(a,b)::ZaJ l
 | _=>[]
theorem ZfR :∀ l:List Int,(ZaJ l).length=l.length / 2
 | []=>rfl
 | [_]=>by simp [ZaJ]
 | a::b::l=>by
  simp only [ZaJ,YAk,ZfR l];omega
theorem ZmB :∀ (l:List Int)(i:Nat)(a b:Int),l[2*i]? = some a->l[2*i+1]? = some b->(ZaJ l)[i]? = some (a,b)
 | [],_,_,_,h,_=>by simp at h
 | [_],0,_,_,_,h=>by simp at h
 | [_],i+1,_,_,h,_=>by simp at h
 | x::y::l,0,a,b,h1,h2=>by
  simp at h1 h2;simp [ZaJ,h1,h2]
 | x::y::l,i+1,a,b,h1,h2=>by
  have e1:2*(i+1)=2*i+1+1:=by omega
  rw [e1] at h1 h2;simp only [YAX] at h1 h2;simp only [ZaJ,YAX];exact ZmB l i a b h1 h2
theorem Znw (l:List Int)(i:Nat)(a b:Int)(h1:l[2*i]? = some a)(h2:l[2*i+1]? = some b):(ZaJ l).take (i+1)=(ZaJ l).take i++[(a,b)]:=by
 have h:=ZmB l i a b h1 h2;obtain⟨hi,e⟩:=YAD.1 h;rw [YAI hi,e]
theorem Zog {ls:List Lk}{f t r:Int}(h:ZcH ls f t r≠0):∃ l∈ls,ZbD f t r l=true:=by
 unfold ZcH at h;cases e:ls.find? (ZbD f t r) with
 | none=>rw [e] at h;simp at h
 | some l=>exact ⟨l,List.mem_of_find?_eq_some e,List.find?_some e⟩
theorem ZlG (v:Value)(ps:List RP)(hi:Nat)(r:RP)(w:World)(hv:RecsIn w hi v ps)(hhi:hi<=w.heap.size)(hn:tot ps<=1048576)(hr:ZaF w 0 hi r)(hmono:∀ s t,s<=t->t<ps.length->ltAt (fsts ps) r.1 t->ltAt (fsts ps) r.1 s):
  Calls Tryz.prog 83 #[v,.agg (recC r.1 r.2),.func (.func 78) #[] #[]] w fun e w'=>∃ (i:Nat) (f:Bool),e=.returned (.tuple #[.int .i64 (i:Int),.bool f])/\i<=ps.length/\(∀ t,t<i->ltAt (fsts ps) r.1 t)/\(∀ t,i<=t->t<ps.length->¬ltAt (fsts ps) r.1 t)/\(f=true↔∃ x,(fsts ps)[i]? = some x/\ordR x r.1=0)/\Below w.heap.size w w':=by
 have hnl:=Zbj ps;obtain⟨a1,c1,rfl⟩:=Zac hv.row;obtain⟨ra,rc,hrn⟩:=Zac hr.1;have HRN:=hide hrn;have HV:=hide hv;have HM:=hide hmono;unfold recC;rw [hrn];clear hv hr hrn hmono;have BX:Below w.heap.size w (w.alloc (.cells #[.int .i64 r.1.area,.int .i64 r.1.kind,.int .i64 r.1.owner,.int .i64 r.1.key,.int .i64 r.1.seq,.slice ra r.1.near.length rc,.int .i64 r.1.cost,.bool r.1.far] 37)):=(YAC _ _).alloc (YA _) _;have hx:=YAE w (.cells #[.int .i64 r.1.area,.int .i64 r.1.kind,.int .i64 r.1.owner,.int .i64 r.1.key,.int .i64 r.1.seq,.slice ra r.1.near.length rc,.int .i64 r.1.cost,.bool r.1.far] 37);obtain⟨w0,hw0⟩:∃ w0,w0=w.alloc (.cells #[.int .i64 r.1.area,.int .i64 r.1.kind,.int .i64 r.1.owner,.int .i64 r.1.key,.int .i64 r.1.seq,.slice ra r.1.near.length rc,.int .i64 r.1.cost,.bool r.1.far] 37):=⟨_,rfl⟩;rw [<-hw0] at BX hx;have hs0:=Zab hx;have HX:=hide hx;clear hx
 go_enter Tryz.func83,Tryz.ntmps83
 go_wp2;rw [<-hw0];clear hw0
 go_loopw [9,10] (fun i j wr=>∃ (m n:Nat),m<=n/\n<=ps.length/\i=.int .i64 m/\j=.int .i64 n/\Hid (∀ t,t<m->ltAt (fsts ps) r.1 t)/\Hid (∀ t,n<=t->t<ps.length->¬ltAt (fsts ps) r.1 t)/\Below w0.heap.size w0 wr) (fun i j _=>(intOf j).toNat-(intOf i).toNat)
 case atStart=>exact ⟨0,ps.length,by omega,by omega,rfl,rfl,hide (by omega),hide (by omega),YAC _ _⟩
 case round=>
  obtain⟨m,n,hmn,hnp,rfl,rfl,HLO,HHI,hnx⟩:=hrel;have hsz:=hnx.size;have BWR:Below w.heap.size w wr:=BX.trans (hnx.mono (by omega));by_cases hlt:m<n
  ·have hmi:(m:Int)<(n:Int):=by omega
   have hw1:IntKind.i64.wrap ((m:Int)+(n:Int))=(m:Int)+(n:Int):=ZaH _ (by omega) (by omega);go_wp2;obtain⟨k,hk⟩:∃ k:Nat,k=(m+n) / 2:=⟨_,rfl⟩;have hke:((m:Int)+(n:Int)) / 2=(k:Int):=by omega
   rw [hke];have hkm:m<=k:=by omega
   have hkn:k<n:=by omega
   have hki:(0:Int)<=(k:Int):=by omega
   have hkj:(k:Int)<(ps.length:Int):=by omega
   clear hk hke hw1;obtain⟨p,hp⟩:∃ p,ps[k]? = some p:=⟨ps[k],YAA (by omega)⟩;obtain⟨b,off,cap',hve,hbb,c0,c1,c2,c3,c4,c5,c6,c7,hnr⟩:=HV.out.at.cells k p hp;cases hve;obtain⟨pa,pc,hpn⟩:=Zat.shape hnr;rw [hpn] at c5;replace c0:=(BWR.cell (YAB hbb hhi)).trans c0;replace c1:=(BWR.cell (YAB hbb hhi)).trans c1;replace c2:=(BWR.cell (YAB hbb hhi)).trans c2;replace c3:=(BWR.cell (YAB hbb hhi)).trans c3;replace c4:=(BWR.cell (YAB hbb hhi)).trans c4;replace c5:=(BWR.cell (YAB hbb hhi)).trans c5;replace c6:=(BWR.cell (YAB hbb hhi)).trans c6;replace c7:=(BWR.cell (YAB hbb hhi)).trans c7;have hxx:=(hnx.block _ (Zab HX.out)).trans HX.out;have d0:=Zaa hxx 0;have d1:=Zaa hxx 1;have d2:=Zaa hxx 2;have d3:=Zaa hxx 3;have d4:=Zaa hxx 4;have d5:=Zaa hxx 5;have d6:=Zaa hxx 6;have d7:=Zaa hxx 7;simp at d0 d1 d2 d3 d4 d5 d6 d7;have hb1:b<wr.heap.size:=by omega
   have hb2:w.heap.size<wr.heap.size:=by omega
   have hq:=fun W=>Zb5 p.2 r.2 p.1 r.1 W;unfold recC at hq;rw [hpn,HRN.out] at hq;obtain⟨x,hx⟩:∃ x,x=ordR p.1 r.1:=⟨_,rfl⟩;rw [<-hx] at hq;have HK:=hide hq;have HXV:=hide hx;have HPP:=hide (Zbf hp);clear hq hx hp hxx hnr hpn;by_cases hx0:x<0
   ·have HLO2:=hide (show ∀ t,t<k+1->ltAt (fsts ps) r.1 t from fun t ht=>HM.out t k (by omega) (by omega) ((Zc1 HPP.out).2 (by rw [<-HXV.out];exact hx0)))
    go_region_held3 (fun W=>W.cell? ⟨b,off+k*8,none⟩=some (.int .i64 p.1.area)/\W.cell? ⟨b,off+k*8+1,none⟩=some (.int .i64 p.1.kind)/\W.cell? ⟨b,off+k*8+2,none⟩=some (.int .i64 p.1.owner)/\W.cell? ⟨b,off+k*8+3,none⟩=some (.int .i64 p.1.key)/\W.cell? ⟨b,off+k*8+4,none⟩=some (.int .i64 p.1.seq)/\W.cell? ⟨b,off+k*8+5,none⟩=some (.slice pa p.1.near.length pc)/\W.cell? ⟨b,off+k*8+6,none⟩=some (.int .i64 p.1.cost)/\W.cell? ⟨b,off+k*8+7,none⟩=some (.bool p.1.far)/\W.cell? ⟨w.heap.size,0,none⟩=some (.int .i64 r.1.area)/\W.cell? ⟨w.heap.size,1,none⟩=some (.int .i64 r.1.kind)/\W.cell? ⟨w.heap.size,2,none⟩=some (.int .i64 r.1.owner)/\W.cell? ⟨w.heap.size,3,none⟩=some (.int .i64 r.1.key)/\W.cell? ⟨w.heap.size,4,none⟩=some (.int .i64 r.1.seq)/\W.cell? ⟨w.heap.size,5,none⟩=some (.slice ra r.1.near.length rc)/\W.cell? ⟨w.heap.size,6,none⟩=some (.int .i64 r.1.cost)/\W.cell? ⟨w.heap.size,7,none⟩=some (.bool r.1.far)) (first | go_keep | (refine ⟨?_,?_,?_,?_,?_,?_,?_,?_,?_,?_,?_,?_,?_,?_,?_,?_⟩ <;> (rw [hbc.cell (by assumption)];assumption))) (first | (go_at_call 78;refine (HK.out _).mono ?_;rintro e w1 ⟨rfl,hbc⟩))
    go_wp2;go_roundw
    case rel=>exact ⟨k+1,n,by omega,by omega,by go_num,rfl,HLO2,HHI,hnx.trans ((YAC _ _).drew.trans (hbc.mono hsz))⟩
    case measure=>simp [intOf];omega
   ·have HHI2:=hide (show ∀ t,k<=t->t<ps.length->¬ltAt (fsts ps) r.1 t from fun t h1 h2 h3=>hx0 (by rw [HXV.out];exact (Zc1 HPP.out).1 (HM.out k t h1 h2 h3)))
    go_region_held3 (fun W=>W.cell? ⟨b,off+k*8,none⟩=some (.int .i64 p.1.area)/\W.cell? ⟨b,off+k*8+1,none⟩=some (.int .i64 p.1.kind)/\W.cell? ⟨b,off+k*8+2,none⟩=some (.int .i64 p.1.owner)/\W.cell? ⟨b,off+k*8+3,none⟩=some (.int .i64 p.1.key)/\W.cell? ⟨b,off+k*8+4,none⟩=some (.int .i64 p.1.seq)/\W.cell? ⟨b,off+k*8+5,none⟩=some (.slice pa p.1.near.length pc)/\W.cell? ⟨b,off+k*8+6,none⟩=some (.int .i64 p.1.cost)/\W.cell? ⟨b,off+k*8+7,none⟩=some (.bool p.1.far)/\W.cell? ⟨w.heap.size,0,none⟩=some (.int .i64 r.1.area)/\W.cell? ⟨w.heap.size,1,none⟩=some (.int .i64 r.1.kind)/\W.cell? ⟨w.heap.size,2,none⟩=some (.int .i64 r.1.owner)/\W.cell? ⟨w.heap.size,3,none⟩=some (.int .i64 r.1.key)/\W.cell? ⟨w.heap.size,4,none⟩=some (.int .i64 r.1.seq)/\W.cell? ⟨w.heap.size,5,none⟩=some (.slice ra r.1.near.length rc)/\W.cell? ⟨w.heap.size,6,none⟩=some (.int .i64 r.1.cost)/\W.cell? ⟨w.heap.size,7,none⟩=some (.bool r.1.far)) (first | go_keep | (refine ⟨?_,?_,?_,?_,?_,?_,?_,?_,?_,?_,?_,?_,?_,?_,?_,?_⟩ <;> (rw [hbc.cell (by assumption)];assumption))) (first | (go_at_call 78;refine (HK.out _).mono ?_;rintro e w1 ⟨rfl,hbc⟩))
    go_wp2;go_roundw
    case rel=>exact ⟨m,k,by omega,by omega,rfl,rfl,HLO,HHI2,hnx.trans ((YAC _ _).drew.trans (hbc.mono hsz))⟩
    case measure=>simp [intOf];omega
  ·have hmn2:m=n:=by omega
   subst hmn2;by_cases hend:m<ps.length
   ·have hmi:(0:Int)<=(m:Int):=by omega
    have hmj:(m:Int)<(ps.length:Int):=by omega
    obtain⟨p,hp⟩:∃ p,ps[m]? = some p:=⟨ps[m],YAA (by omega)⟩;obtain⟨b,off,cap',hve,hbb,c0,c1,c2,c3,c4,c5,c6,c7,hnr⟩:=HV.out.at.cells m p hp;cases hve;obtain⟨pa,pc,hpn⟩:=Zat.shape hnr;rw [hpn] at c5;replace c0:=(BWR.cell (YAB hbb hhi)).trans c0;replace c1:=(BWR.cell (YAB hbb hhi)).trans c1;replace c2:=(BWR.cell (YAB hbb hhi)).trans c2;replace c3:=(BWR.cell (YAB hbb hhi)).trans c3;replace c4:=(BWR.cell (YAB hbb hhi)).trans c4;replace c5:=(BWR.cell (YAB hbb hhi)).trans c5;replace c6:=(BWR.cell (YAB hbb hhi)).trans c6;replace c7:=(BWR.cell (YAB hbb hhi)).trans c7;have hxx:=(hnx.block _ (Zab HX.out)).trans HX.out;have d0:=Zaa hxx 0;have d1:=Zaa hxx 1;have d2:=Zaa hxx 2;have d3:=Zaa hxx 3;have d4:=Zaa hxx 4;have d5:=Zaa hxx 5;have d6:=Zaa hxx 6;have d7:=Zaa hxx 7;simp at d0 d1 d2 d3 d4 d5 d6 d7;have hb1:b<wr.heap.size:=by omega
    have hb2:w.heap.size<wr.heap.size:=by omega
    have hq:=fun W=>Zb5 p.2 r.2 p.1 r.1 W;unfold recC at hq;rw [hpn,HRN.out] at hq;obtain⟨x,hx⟩:∃ x,x=ordR p.1 r.1:=⟨_,rfl⟩;rw [<-hx] at hq;have HK:=hide hq;have HXV:=hide hx;have HPP:=hide (Zbf hp);clear hq hx hp hxx hnr hpn;have hfin:(x==0)=true↔∃ y,(fsts ps)[m]? = some y/\ordR y r.1=0:=by
     rw [HPP.out];constructor
     ·intro h;exact⟨p.1,rfl,by rw [<-HXV.out];simpa using h⟩
     ·rintro ⟨y,hy,he⟩;cases hy;rw [HXV.out];simpa using he
    have HFIN:=hide hfin;clear hfin;go_wp2
    go_region_held3 (fun W=>W.cell? ⟨b,off+m*8,none⟩=some (.int .i64 p.1.area)/\W.cell? ⟨b,off+m*8+1,none⟩=some (.int .i64 p.1.kind)/\W.cell? ⟨b,off+m*8+2,none⟩=some (.int .i64 p.1.owner)/\W.cell? ⟨b,off+m*8+3,none⟩=some (.int .i64 p.1.key)/\W.cell? ⟨b,off+m*8+4,none⟩=some (.int .i64 p.1.seq)/\W.cell? ⟨b,off+m*8+5,none⟩=some (.slice pa p.1.near.length pc)/\W.cell? ⟨b,off+m*8+6,none⟩=some (.int .i64 p.1.cost)/\W.cell? ⟨b,off+m*8+7,none⟩=some (.bool p.1.far)/\W.cell? ⟨w.heap.size,0,none⟩=some (.int .i64 r.1.area)/\W.cell? ⟨w.heap.size,1,none⟩=some (.int .i64 r.1.kind)/\W.cell? ⟨w.heap.size,2,none⟩=some (.int .i64 r.1.owner)/\W.cell? ⟨w.heap.size,3,none⟩=some (.int .i64 r.1.key)/\W.cell? ⟨w.heap.size,4,none⟩=some (.int .i64 r.1.seq)/\W.cell? ⟨w.heap.size,5,none⟩=some (.slice ra r.1.near.length rc)/\W.cell? ⟨w.heap.size,6,none⟩=some (.int .i64 r.1.cost)/\W.cell? ⟨w.heap.size,7,none⟩=some (.bool r.1.far)) (first | go_keep | (refine ⟨?_,?_,?_,?_,?_,?_,?_,?_,?_,?_,?_,?_,?_,?_,?_,?_⟩ <;> (rw [hbc.cell (by assumption)];assumption))) (first | (go_at_call 78;refine (HK.out _).mono ?_;rintro e w1 ⟨rfl,hbc⟩))
    go_wp2
    go_returns
    exact⟨m,x==0,rfl,by omega,HLO.out,HHI.out,HFIN.out,BWR.trans ((YAC _ _).drew.trans (hbc.mono (show w.heap.size<=wr.heap.size by omega)))⟩
   ·have hme:¬(m:Int)<(ps.length:Int):=by omega
    have HNO:=hide (show (false=true↔∃ y,(fsts ps)[m]? = some y/\ordR y r.1=0) from ⟨(fun h=>by cases h),(fun ⟨y,hy,_⟩=>by rw [List.getElem?_eq_none (by simp [fsts];omega)] at hy;cases hy)⟩);go_wp2
    go_quiet (fail)
    go_wp2
    go_returns
    exact⟨m,false,rfl,by omega,HLO.out,HHI.out,HNO.out,BWR.trans ⟨rfl,rfl,rfl,YA _,fun _ _=>rfl⟩⟩
theorem ZhW (ps:List QP):ps.Pairwise ZdX↔(ps.map (·.2)).Pairwise (fun a b:Value=>∀ k,a.ownBlock=some k->b.ownBlock≠some k):=by
 rw [YAm];exact Iff.rfl
theorem ZnY {ps:List QP}(h:ps.Pairwise ZdX){i:Nat}(hi:ps[i]? = some p)(hk:ps[k]? = some q)(hne:i≠k):ZdX p q:=by
 obtain⟨h1,e1⟩:=YAD.1 hi;obtain⟨h2,e2⟩:=YAD.1 hk;rw [YAa] at h;rcases Nat.lt_or_ge i k with hl | hl
 ·have:=h i k h1 h2 hl;rw [e1,e2] at this;exact this
 ·have:=h k i h2 h1 (by omega);rw [e1,e2] at this;exact fun j hj he=>this j he hj
theorem Zrc {ps:List QP}(hk:ps[k]? = some p)(h:q.2=p.2):(ps.set k q).map (·.2)=ps.map (·.2):=by
 apply List.ext_getElem?;intro i;by_cases e:i=k
 ·subst e;obtain⟨h1,e1⟩:=YAD.1 hk;rw [List.getElem?_map,List.getElem?_set_self h1,List.getElem?_map,hk];simp [h]
 ·simp [List.getElem?_set_ne (Ne.symm e)]
theorem RtsOwn.turn {W W8:World}{lo hi g n cap:Nat}{xs:List QP}(h:RtsOwn W lo hi (.slice (some ⟨g,0,none⟩) n cap) xs)(hn:xs.length=n)(hk:xs[k]? = some p)(hq:q.2=p.2)
  (row:W8.ownsRow lo 42 6 (.slice (some ⟨g,0,none⟩) n cap) n (flat encQ (xs.set k q))) (near:W8.ownsRow lo 3 1 q.2 q.1.hops.length (flat intE q.1.hops))
  (hkeep:∀ j,j<W.heap.size->j≠g->some j≠p.2.ownBlock->W8.heap[j]? = W.heap[j]?):RtsOwn W8 lo hi (.slice (some ⟨g,0,none⟩) n cap) (xs.set k q) where
 row:=by rw [List.length_set,hn];exact row
 top:=h.top
 apart:=by rw [ZhW,Zrc hk hq, <-ZhW];exact h.apart
 nears:=by
  intro r hr;obtain⟨i,hi,e⟩:=List.getElem_of_mem hr;have hr2:(xs.set k q)[i]? = some r:=by rw [<-e];exact YAA hi
  by_cases ek:i=k
  ·subst ek;rw [List.getElem?_set_self (by simpa using hi)] at hr2;cases hr2;refine⟨near,?_⟩;rw [hq];exact (h.nears p (YAG hk)).2
  ·rw [List.getElem?_set_ne (Ne.symm ek)] at hr2;have ho:=h.nears r (YAG hr2);refine⟨Zal ho.1 (fun j hj=>?_),ho.2⟩;refine hkeep j (ho.1.lt j hj).2 ?_ ?_
   ·rintro rfl;obtain⟨cur,hh⟩:∃ cur,W.heap[j]? = some (.cells cur 42 (0,0)):=by
     rcases h.row.2 with ⟨h0,_⟩ | ⟨g',cap',cur',hv',_,hh',_⟩
     ·cases h0
     ·cases hv';exact⟨cur',hh'⟩
    rcases ho.1.2 with ⟨h0,_⟩ | ⟨g',cap',cur',hv',_,hh',_⟩
    ·rw [h0] at hj;simp [Value.ownBlock] at hj
    ·rw [hv'] at hj;simp [Value.ownBlock] at hj;subst hj;rw [hh] at hh';simp at hh'
   ·intro he;exact ZnY h.apart hr2 hk ek j hj he.symm
theorem Zjs (v1 v2:Value)(ps qs:List RP)(hi:Nat)(w:World)(h1:RecsIn w hi v1 ps)(h2:RecsIn w hi v2 qs)(he:fsts ps=fsts qs)(hhi:hi<=w.heap.size)(hn:tot ps<=1048576):
  Calls Tryz.prog 8 #[v1,v2] w fun e w'=>e=.returned (.bool true)/\Below w.heap.size w w':=by
 have hnl:=Zbj ps;have hel:ps.length=qs.length:=by have:=congrArg List.length he;simpa [fsts] using this
 obtain⟨a1,c1,rfl⟩:=Zac h1.row;obtain⟨a2,c2,rfl⟩:=Zac h2.row;have HV:=hide h1;have HW:=hide h2;have HE:=hide he;have hei:(ps.length:Int)=(qs.length:Int):=by omega
 have HEL:=hide hel;clear h1 h2 he hel
 go_enter Tryz.func8,Tryz.ntmps8
 go_wp2
 go_loopw [5] (fun i wr=>∃ (k:Nat),k<=ps.length/\i=.int .i64 k/\Below w.heap.size w wr) (fun i _=>ps.length-(intOf i).toNat)
 case atStart=>exact ⟨0,by omega,rfl,YAC _ _⟩
 case round=>
  obtain⟨k,hk,rfl,hnx⟩:=hrel;have hsz:=hnx.size;by_cases hlt:k<ps.length
  ·obtain ⟨p,hp⟩:∃ p,ps[k]? = some p:=⟨ps[k],YAA hlt⟩;obtain⟨q,hq⟩:∃ q,qs[k]? = some q:=⟨qs[k]'(by have:=HEL.out;omega),YAA (by have:=HEL.out;omega)⟩;have hpq:p.1=q.1:=by
    have e1:=Zbf hp;have e2:=Zbf hq;rw [HE.out,e2] at e1;exact (Option.some.inj e1).symm
   obtain⟨b,off,cap',hve,hbb,c0,c1,c2,c3,c4,c5,c6,c7,hn1⟩:=HV.out.at.cells k p hp;cases hve;obtain⟨b2,off2,cap2,hve2,hbb2,d0,d1,d2,d3,d4,d5,d6,d7,hn2⟩:=HW.out.at.cells k q hq;cases hve2;replace c0:=(hnx.cell (YAB hbb hhi)).trans c0;replace c1:=(hnx.cell (YAB hbb hhi)).trans c1;replace c2:=(hnx.cell (YAB hbb hhi)).trans c2;replace c3:=(hnx.cell (YAB hbb hhi)).trans c3;replace c4:=(hnx.cell (YAB hbb hhi)).trans c4;replace c5:=(hnx.cell (YAB hbb hhi)).trans c5;replace c6:=(hnx.cell (YAB hbb hhi)).trans c6;replace c7:=(hnx.cell (YAB hbb hhi)).trans c7;replace d0:=(hnx.cell (YAB hbb2 hhi)).trans d0;replace d1:=(hnx.cell (YAB hbb2 hhi)).trans d1;replace d2:=(hnx.cell (YAB hbb2 hhi)).trans d2;replace d3:=(hnx.cell (YAB hbb2 hhi)).trans d3;replace d4:=(hnx.cell (YAB hbb2 hhi)).trans d4;replace d5:=(hnx.cell (YAB hbb2 hhi)).trans d5;replace d6:=(hnx.cell (YAB hbb2 hhi)).trans d6;replace d7:=(hnx.cell (YAB hbb2 hhi)).trans d7;have hb1:b<wr.heap.size:=by omega
   have hb2:b2<wr.heap.size:=by omega
   have hki:(0:Int)<=(k:Int):=by omega
   have hkj:(k:Int)<(ps.length:Int):=by omega
   have hkq:(k:Int)<(qs.length:Int):=by omega
   have HSM:=hide (fun W (hb:Below w.heap.size w W)=>Zq9 p.1 p.2 q.2 W ((Zav.later hn1 hb hhi).more (by have:=hb.size;omega)) ((Zav.later (B:=hi) (by rw [hpq];exact hn2) hb hhi).more (by have:=hb.size;omega)) (by have:=Zem (YAG hp);omega));unfold recC at HSM;rw [<-hpq] at d0 d1 d2 d3 d4 d6 d7;have hnd:Below w.heap.size w wr.drew:=hnx.drew;clear hp hq hpq hn1 hn2 hei;go_wp2
   go_region_held3 (fun W=>W.cell? ⟨b,off+k*8,none⟩=some (.int .i64 p.1.area)/\W.cell? ⟨b,off+k*8+1,none⟩=some (.int .i64 p.1.kind)/\W.cell? ⟨b,off+k*8+2,none⟩=some (.int .i64 p.1.owner)/\W.cell? ⟨b,off+k*8+3,none⟩=some (.int .i64 p.1.key)/\W.cell? ⟨b,off+k*8+4,none⟩=some (.int .i64 p.1.seq)/\W.cell? ⟨b,off+k*8+5,none⟩=some (p.2)/\W.cell? ⟨b,off+k*8+6,none⟩=some (.int .i64 p.1.cost)/\W.cell? ⟨b,off+k*8+7,none⟩=some (.bool p.1.far)/\W.cell? ⟨b2,off2+k*8,none⟩=some (.int .i64 p.1.area)/\W.cell? ⟨b2,off2+k*8+1,none⟩=some (.int .i64 p.1.kind)/\W.cell? ⟨b2,off2+k*8+2,none⟩=some (.int .i64 p.1.owner)/\W.cell? ⟨b2,off2+k*8+3,none⟩=some (.int .i64 p.1.key)/\W.cell? ⟨b2,off2+k*8+4,none⟩=some (.int .i64 p.1.seq)/\W.cell? ⟨b2,off2+k*8+5,none⟩=some (q.2)/\W.cell? ⟨b2,off2+k*8+6,none⟩=some (.int .i64 p.1.cost)/\W.cell? ⟨b2,off2+k*8+7,none⟩=some (.bool p.1.far)) (first | go_keep | (refine ⟨?_,?_,?_,?_,?_,?_,?_,?_,?_,?_,?_,?_,?_,?_,?_,?_⟩ <;> (rw [hbc.cell (by assumption)];assumption))) (first | (go_at_call 28;refine (HSM.out _ hnd).mono ?_;rintro e w1 ⟨rfl,hbc⟩))
   go_wp2;go_roundw
   case rel=>exact ⟨k+1,by omega,by go_num,hnd.trans (hbc.mono hsz)⟩
   case measure=>simp [intOf];omega
  ·go_wp2;go_ret;exact⟨rfl,hnx⟩
end Go.Proofs.YtikloccefmofdaaGreat
