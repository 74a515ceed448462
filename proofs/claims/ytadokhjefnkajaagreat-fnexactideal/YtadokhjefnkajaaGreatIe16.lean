/-
  PlaceK InstK WayToS PushW IntsK ConcatR InsA PutP
-/
import Derived.Test.YtadokhjefnkajaaGreatIe13
import Derived.Test.YtadokhjefnkajaaGreatIe7
import Derived.Test.YtadokhjefnkajaaGreatIe12
import Derived.Test.YtadokhjefnkajaaGreatShelfG
import Derived.Test.YtadokhjefnkajaaGreatIe9
import Derived.Test.YtadokhjefnkajaaGreatIe11
import Derived.Test.YtadokhjefnkajaaGreatIe3
import Derived.Shelf.Spec.SlicesInsertGrow
namespace Go.Proofs.YtadokhjefnkajaaGreat
open Go.RowKit
set_option linter.unusedSimpArgs false
set_option linter.unusedVariables false
set_option maxRecDepth 100000
set_option maxHeartbeats 8000000
def atZ (xs:List RecD)(r:RecD):Int:=match xs.findIdx? (fun x=>Zaw x r) with
 | some i=>(i:Int)
 | none => -1
theorem Zmo {xs:List RecD}{r x:RecD}{k:Nat}(hk:xs[k]? = some x)(hs:Zaw x r=true)(hall:∀ j,j<k->∀ y,xs[j]? = some y->Zaw y r=false):atZ xs r=(k:Int):=by
 obtain⟨h1,e1⟩:=List.getElem?_eq_some_iff.1 hk;have:xs.findIdx? (fun x=>Zaw x r)=some k:=by
  rw [List.findIdx?_eq_some_iff_getElem];refine⟨h1,by rw [e1];exact hs,fun j hj=>?_⟩
  have:=hall j hj xs[j] (List.getElem?_eq_getElem (by omega))
  simp [this]
 unfold atZ;rw [this]
theorem Zn3 {xs:List RecD}{r:RecD}(hall:∀ j,j<xs.length->∀ y,xs[j]? = some y->Zaw y r=false):atZ xs r = -1:=by
 have:xs.findIdx? (fun x=>Zaw x r)=none:=by
  rw [List.findIdx?_eq_none_iff];intro x hx;obtain⟨i,hi,e⟩:=List.getElem_of_mem hx;exact hall i hi x (by rw [<-e];exact List.getElem?_eq_getElem hi)
 unfold atZ;rw [this]
theorem Zdt (xs:List RecD)(r:RecD):atZ xs r = -1\/∃ (k:Nat) (x:RecD),atZ xs r=(k:Int)/\xs[k]? = some x/\Zaw x r=true:=by
 unfold atZ;cases h:xs.findIdx? (fun x=>Zaw x r) with
 | none=>exact .inl rfl
 | some i=>
  obtain⟨h1,h2,_⟩:=List.findIdx?_eq_some_iff_getElem.1 h;exact .inr ⟨i,xs[i],rfl,List.getElem?_eq_getElem h1,h2⟩
structure RecsIn (W:World) (hi:Nat) (v:Value) (ps:List RP):Prop where
 row:W.ownsRow 0 39 8 v ps.length (flat encP ps)
 top:∀ k,v.ownBlock=some k->k<hi
 nears:∀ p∈ps,ZaD W 0 hi p
theorem RecsOwn.in {W:World}{lo hi:Nat}{v:Value}{ps:List RP}(h:RecsOwn W lo hi v ps):RecsIn W hi v ps:=⟨Zaj h.row (Nat.zero_le _),h.top,fun p hp=>(h.nears p hp).wide (Nat.zero_le _) (Nat.le_refl _)⟩
theorem RecsIn.keep {W W':World}{hi:Nat}{v:Value}{ps:List RP}(h:RecsIn W hi v ps)(hk:∀ k,k<hi->k<W.heap.size->W'.heap[k]? = W.heap[k]?):RecsIn W' hi v ps where
 row:=Zan h.row (fun k e=>hk k (h.top k e) (h.row.lt k e).2)
 top:=h.top
 nears:=fun p hp=>(h.nears p hp).keep (fun k _ h2 h3=>hk k h2 h3)
theorem RecsIn.below {W W':World}{hi B:Nat}{v:Value}{ps:List RP}(h:RecsIn W hi v ps)(hb:Below B W W')(hB:hi<=B):RecsIn W' hi v ps:=h.keep (fun k h2 _=>hb.block k (by omega))
theorem RecsIn.wide {W:World}{hi hi':Nat}{v:Value}{ps:List RP}(h:RecsIn W hi v ps)(hh:hi<=hi'):RecsIn W hi' v ps:=⟨h.row,fun k e=>Nat.lt_of_lt_of_le (h.top k e) hh,fun p hp=>(h.nears p hp).wide (Nat.le_refl _) hh⟩
theorem RecsIn.at {W:World}{hi:Nat}{v:Value}{ps:List RP}(h:RecsIn W hi v ps):Zbn W v ps hi:=by
 refine⟨?_,fun p hp=>(h.nears p hp).at⟩
 have h1:=Zap h.row;obtain⟨a,cap,hv,h2⟩:=h1;refine⟨a,cap,hv,?_⟩
 rcases h2 with h0 | ⟨b,off,ha,hb1,hx⟩
 ·exact .inl h0
 ·exact .inr ⟨b,off,ha,h.top b (by rw [hv,ha];rfl),hx⟩
theorem ZiA (v:Value)(ps:List RP)(hi:Nat)(w:World)(hv:RecsIn w hi v ps)(hhi:hi<=w.heap.size)(hn:tot ps<=1048576):
  Calls Tryz.prog 68 #[v] w fun e w'=>∃ x qs,e=.returned x/\fsts qs=fsts ps/\RecsOwn w' w.heap.size w'.heap.size x qs/\Below w.heap.size w w':=by
 have hnl:=Zbh ps;obtain⟨a1,c1,rfl⟩:=Zac hv.row;have HV:=hide hv;clear hv;have R0:=hide (Zct w w.heap.size (Nat.le_refl _));have B0:Below w.heap.size w (w.alloc (.cells #[] 39)):=(Below.refl _ _).alloc (Nat.le_refl _) _
 go_enter Tryz.func68,Tryz.ntmps68
 go_wp2
 generalize w.alloc (.cells #[] 39)=w0 at *
 go_loopw [4,3] (fun i o wr=>∃ (k:Nat) (qs:List RP) (u:Value),k<=ps.length/\i=.int .i64 k/\o=u/\fsts qs=fsts (ps.take k)/\RecsOwn wr w.heap.size wr.heap.size u qs/\Below w.heap.size w wr) (fun i _ _=>ps.length-(intOf i).toNat)
 case atStart=>exact ⟨0,[],_,by omega,rfl,rfl,by simp [fsts],R0.out,B0⟩
 case round=>
  obtain⟨k,qs,u,hk,rfl,rfl,hmap,hown,hnx⟩:=hrel;obtain⟨ua,uc,rfl⟩:=Zac hown.row;have hsz:=hnx.size;by_cases hlt:k<ps.length
  ·obtain ⟨p,hp⟩:∃ p,ps[k]? = some p:=⟨ps[k],List.getElem?_eq_getElem hlt⟩
   have hat:=HV.out.at;obtain⟨b,off,cap',hve,hbb,c0,c1,c2,c3,c4,c5,c6,c7,_⟩:=hat.cells k p hp;cases hve
   rw [<-hnx.cell (p:=⟨b,off+k*8,none⟩) (Nat.lt_of_lt_of_le hbb hhi)] at c0;rw [<-hnx.cell (p:=⟨b,off+k*8+1,none⟩) (Nat.lt_of_lt_of_le hbb hhi)] at c1;rw [<-hnx.cell (p:=⟨b,off+k*8+2,none⟩) (Nat.lt_of_lt_of_le hbb hhi)] at c2;rw [<-hnx.cell (p:=⟨b,off+k*8+3,none⟩) (Nat.lt_of_lt_of_le hbb hhi)] at c3;rw [<-hnx.cell (p:=⟨b,off+k*8+4,none⟩) (Nat.lt_of_lt_of_le hbb hhi)] at c4;rw [<-hnx.cell (p:=⟨b,off+k*8+5,none⟩) (Nat.lt_of_lt_of_le hbb hhi)] at c5;rw [<-hnx.cell (p:=⟨b,off+k*8+6,none⟩) (Nat.lt_of_lt_of_le hbb hhi)] at c6;rw [<-hnx.cell (p:=⟨b,off+k*8+7,none⟩) (Nat.lt_of_lt_of_le hbb hhi)] at c7;have hno:=(HV.out.nears p (List.mem_of_getElem? hp)).keep (W':=wr) (fun j _ h2 _=>hnx.block j (by omega))
   obtain⟨pa,pc,hpn⟩:=Zac hno.1;have HC:=Zmv p.1 p.2 0 wr hno.1 (by have:=ZdN (List.mem_of_getElem? hp);omega)
   unfold recC at HC;rw [hpn] at c5 HC;have HCP:=hide HC;have HP:=hide hp;have HM:=hide hmap;have OW:=hide hown;have HQL:=hide (show qs.length<=1048576 by
    have h1:=congrArg List.length hmap;simp [fsts] at h1
    omega)
   clear hp hmap hown hno hpn HC hat;have hki:(0:Int)<=(k:Int):=by omega
   have hkj:(k:Int)<(ps.length:Int):=by omega
   go_wp2_with fail
   refine HCP.out.mono ?_
   rintro e w2 ⟨v1,rfl,hn2,b2⟩;obtain⟨n1a,n1c,rfl⟩:=Zac hn2;have b2s:=b2.size
   go_wp2_with (first
    | (at_builtin;refine ZaL Zav (by omega) (by omega) _ rfl _ _ 29 rfl w.heap.size 39 Tryz.underlying29 (.agg (recC Za6 (.slice none 0 0))) rfl Tryz.infoRec _ qs (p.1,.slice n1a p.1.near.length n1c) (ZbS _ _ _ _) rfl ((Zae OW.out.row b2 (Nat.le_refl _)).alloc _) ⟨w2.heap.size,0,none⟩ 1 rfl (Zay (cs:=encP (p.1,.slice n1a p.1.near.length n1c))) (by have:=HQL.out;omega) (by simp;omega) ?_))
   intro v' w4 hown' hgrow;have ow4:=OW.out.push (p:=(p.1,.slice n1a p.1.near.length n1c)) (b2.alloc b2.size _) (by omega) (ZaD.wide (ZaD.keep ⟨hn2,fun k hk=>(hn2.lt k hk).2⟩ (fun j _ _ h3=>Below.heap_alloc _ _ _ h3)) (Nat.le_refl _) (by simp)) hown' hgrow
   obtain⟨va,vc,rfl⟩:=Zac hown';have B4:Below w.heap.size w w4:=((hnx.trans (b2.mono hsz)).alloc (by omega) _).grown hgrow (by simp;omega) (fun k hk=>(OW.out.row.lt k hk).1)
   have OW4:=hide ow4;clear ow4 hown' hgrow hn2
   go_wp2
   go_roundw
   case rel=>exact ⟨k+1,qs++[(p.1,.slice n1a p.1.near.length n1c)],_,by omega,by go_num,rfl,by rw [show fsts (ps.take (k+1))=fsts (ps.take k)++[p.1] from map_take HP.out, <-HM.out];simp [fsts],OW4.out,B4⟩
   case measure=>simp [intOf];omega
  ·have hkn:k=ps.length:=by omega
   have KN:=hide hkn;have OW:=hide hown;have HM:=hide hmap;clear hkn hown hmap
   go_wp2
   go_ret
   have h1:=HM.out;rw [KN.out,List.take_length] at h1
   first
    | exact ⟨_,qs,rfl,h1,OW.out,hnx⟩
    | exact ⟨_,rfl,qs,h1,OW.out,hnx⟩
theorem Zbb {P:Program}{fn:Func}{p u:Tmp}{ty:TypeId}(h:fn.results=#[.cell p ty,.tmp u])(tmps:Array Value)(w:World)(g:Nat)(t:TypeId)(cs:Array Value)(fr:Nat × Nat)(d:TypeDesc)
  (hp:tmps.getD p undef=.pointer (some ⟨g,0,none⟩)) (hg:w.heap[g]? = some (.cells cs t fr))
  (hu:P.underlying ty=some d) (hd:(match d with | .struct _ | .array _ _=>true | _=>false)=true) (hi:(P.info? ty).map (·.size)=some cs.size):
  (results fn tmps).run P w=.ok (.tuple #[.agg cs,tmps.getD u undef]) w:=by
 have hp':tmps[p]?.getD undef=.pointer (some ⟨g,0,none⟩):=by simpa using hp
 rw [results_cell_tmp h];simp [hp',asAddr,run_loadVar_row w g t ty cs fr d hg hu hd hi]
def ZbD (xs:List WayD)(z:Int):WayD:=(xs.find? (fun x=>x.to==z)).getD Zbt
def Zbs (xs:List WayD)(z:Int):Bool:=(xs.find? (fun x=>x.to==z)).isSome
theorem Zjn {ps:List WP}{k:Nat}{p:WP}{z:Int}(h:ps[k]? = some p)(hno:∀ q∈ps.take k,q.1.to≠z)(hz:p.1.to=z):ZbD (Zal ps) z=p.1/\Zbs (Zal ps) z=true:=by
 have e:(Zal ps).find? (fun x=>x.to==z)=some p.1:=by
  have h1:=ZcA h;obtain⟨hk,e1⟩:=List.getElem?_eq_some_iff.1 h1;rw [List.find?_eq_some_iff_append];refine⟨by simpa using hz,(Zal ps).take k,(Zal ps).drop (k+1),?_,?_⟩
  ·rw [<-e1, <-List.drop_eq_getElem_cons hk,List.take_append_drop]
  ·intro x hx
   have e2:(Zal ps).take k=Zal (ps.take k):=by simp [Zal]
   rw [e2] at hx;simp only [Zal,List.mem_map] at hx
   obtain⟨q,hq,rfl⟩:=hx
   simpa using hno q hq
 unfold ZbD Zbs;rw [e];exact⟨rfl,rfl⟩
theorem Zhn {ps:List WP}{z:Int}(hno:∀ q∈ps,q.1.to≠z):ZbD (Zal ps) z=Zbt/\Zbs (Zal ps) z=false:=by
 have e:(Zal ps).find? (fun x=>x.to==z)=none:=by
  rw [List.find?_eq_none];intro x hx;simp only [Zal,List.mem_map] at hx
  obtain⟨q,hq,rfl⟩:=hx
  simpa using hno q hq
 unfold ZbD Zbs;rw [e];exact⟨rfl,rfl⟩
theorem Zla {ps:List WP}{k:Nat}{p:WP}{z:Int}(h:ps[k]? = some p)(hno:∀ q∈ps.take k,q.1.to≠z)(hz:p.1.to≠z):∀ q∈ps.take (k+1),q.1.to≠z:=by
 obtain⟨hk,e⟩:=List.getElem?_eq_some_iff.1 h;rw [List.take_succ_eq_append_getElem hk,e];intro q hq
 rcases List.mem_append.1 hq with h1 | h1
 ·exact hno q h1
 ·have:q=p:=by simpa using h1
  subst this;exact hz
theorem ZcD (v:Value)(ps:List WP)(lo hi:Nat)(z:Int)(w:World)(hv:WaysOwn w lo hi v ps)(hhi:hi<=w.heap.size)(hn:totW ps<=1048576):
  Calls Tryz.prog 197 #[v,.int .i64 z] w fun e w'=>∃ u,e=.returned (.tuple #[.agg (wayC (ZbD (Zal ps) z) u),.bool (Zbs (Zal ps) z)])/\w'.ownsRow w.heap.size 3 1 u (ZbD (Zal ps) z).hops.length (flat intE (ZbD (Zal ps) z).hops)/\Below w.heap.size w w':=by
 have hnl:=Zld ps;obtain⟨D,hD⟩:∃ D,D=ZbD (Zal ps) z:=⟨_,rfl⟩;obtain⟨F,hF⟩:∃ F,F=Zbs (Zal ps) z:=⟨_,rfl⟩;rw [<-hD, <-hF];have HD:=hide hD;have HF:=hide hF;clear hD hF;obtain⟨a1,c1,rfl⟩:=Zac hv.row;have HV:=hide hv;clear hv;have BX:Below w.heap.size w (w.alloc (.cells #[.int .i64 0,.int .i64 0,.slice none 0 0] 194)):=(Below.refl _ _).alloc (Nat.le_refl _) _;have hq:=heap_alloc_new w (.cells #[.int .i64 0,.int .i64 0,.slice none 0 0] 194);obtain⟨w0,hw0⟩:∃ W,W=w.alloc (.cells #[.int .i64 0,.int .i64 0,.slice none 0 0] 194):=⟨_,rfl⟩;rw [<-hw0] at BX hq;have hs0:=Zab hq;have HQ:=hide hq;clear hq;unfold wayC
 go_enter Tryz.func197,Tryz.ntmps197
 go_wp2
 rw [<-hw0];clear hw0
 go_loopw [6] (fun i wr=>∃ k:Nat,k<=ps.length/\i=.int .i64 k/\Hid (∀ q∈ps.take k,q.1.to≠z)/\Below w0.heap.size w0 wr) (fun i _=>ps.length-(intOf i).toNat)
 case atStart=>exact ⟨0,by omega,rfl,hide (by simp),Below.refl _ _⟩
 case round=>
  obtain⟨k,hk,rfl,HNO,hnx⟩:=hrel;have hsz:=hnx.size;have BWR:Below w.heap.size w wr:=BX.trans (hnx.mono (by omega))
  have hz1:=(hnx.block _ hs0).trans HQ.out;by_cases hlt:k<ps.length
  ·obtain ⟨p,hp⟩:∃ p,ps[k]? = some p:=⟨ps[k],List.getElem?_eq_getElem hlt⟩
   obtain⟨b,off,cp,hve,hbb,c0,c1,c2,_⟩:=HV.out.at.cells k p hp;cases hve
   have hbw:b<w.heap.size:=by omega
   have hno:=HV.out.nears p (List.mem_of_getElem? hp);obtain⟨pa,pc,hpn⟩:=Zac hno.1;have HCP:=hide (fun W (hb:Below w.heap.size w W)=>ZfX p.1 p.2 lo W (Zae hno.1 hb (Nat.le_refl _)) (by have:=Zle (List.mem_of_getElem? hp);omega))
   unfold wayC at HCP;rw [hpn] at c2 HCP;rw [<-BWR.cell (p:=⟨b,off+k*3,none⟩) hbw] at c0;rw [<-BWR.cell (p:=⟨b,off+k*3+1,none⟩) hbw] at c1;rw [<-BWR.cell (p:=⟨b,off+k*3+2,none⟩) hbw] at c2;have hki:(0:Int)<=(k:Int):=by omega
   have hkj:(k:Int)<(ps.length:Int):=by omega
   by_cases hzz:p.1.to=z
   ·have hh:=Zjn hp HNO.out hzz
    have hDe:D=p.1:=HD.out.trans hh.1;have hFe:F=true:=HF.out.trans hh.2;subst hDe hFe;subst hzz;clear hp hno hpn hh
    go_wp2_with fail
    refine (HCP.out _ BWR).mono ?_
    rintro e w2 ⟨v1,rfl,hn2,b2⟩;obtain⟨na,nc,rfl⟩:=Zac hn2;have b2s:=b2.size;have hz2:=(b2.block _ (Zab hz1)).trans hz1;have u0:=Zaa hz2 0;have u1:=Zaa hz2 1;have u2:=Zaa hz2 2;simp at u0 u1 u2
    have fu:=Zaf hz2;have FF:=hide (Zc6 p.1 (.slice na p.1.hops.length nc) hz2);have G8:=Za2 w2 w.heap.size p.1 (.slice na p.1.hops.length nc);have O3:=hide (Zaj (b0:=w.heap.size) (hn2.kept G8 (by
     cases hv:(Value.slice na p.1.hops.length nc).ownBlock with
     | none=>exact .inl rfl
     | some g=>exact .inr (fun e=>by have:=(hn2.lt g hv).1;simp at e;omega))) (by omega))
    have B2:Below w.heap.size w w2:=BWR.trans (b2.mono (by omega))
    have BF:=hide (B2.grown G8 B2.size (fun k hk=>by simp at hk;omega))
    clear hz2 hn2 b2 G8 hz1
    go_wp2_with fail
    (try simp only [Exit.inBlock,Exit.then])
    refine bodyPost_ret (Zbb rfl _ _ w.heap.size 194 (wayC p.1 (.slice na p.1.hops.length nc)) (0,0) _ rfl FF.out Tryz.underlying194 rfl (by kernel_rfl)) rfl ?_
    exact⟨_,rfl,O3.out,BF.out⟩
   ·have HN:=hide (Zla hp HNO.out hzz)
    have hd:(p.1.to==z)=false:=by simpa using hzz
    clear hp hno hpn hz1
    go_wp2
    go_roundw
    case rel=>exact ⟨k+1,by omega,by go_num,HN,hnx⟩
    case measure=>simp [intOf];omega
  ·have hh:=Zhn (ps:=ps) (z:=z) (by have h:=HNO.out;rw [List.take_of_length_le (by omega)] at h;exact h)
   have hDe:D=Zbt:=HD.out.trans hh.1;have hFe:F=false:=HF.out.trans hh.2;subst hDe hFe;have u0:=Zaa hz1 0;have u1:=Zaa hz1 1;have u2:=Zaa hz1 2;simp at u0 u1 u2
   have fu:=Zaf hz1;have FF:=hide (Zc6 Zbt (.slice none 0 0) hz1);have G8:=hide (Za2 wr w.heap.size Zbt (.slice none 0 0));clear hz1 hh
   go_wp2_with fail
   (try simp only [Exit.inBlock,Exit.then])
   refine bodyPost_ret (Zbb rfl _ _ w.heap.size 194 (wayC Zbt (.slice none 0 0)) (0,0) _ rfl FF.out Tryz.underlying194 rfl (by kernel_rfl)) rfl ?_
   exact⟨.slice none 0 0,rfl,World.ownsRow_nil _ _ _ _,BWR.grown G8.out BWR.size (fun k hk=>by simp at hk;omega)⟩
theorem Zdi (x:WayD)(a:Option Addr)(n c:Nat):∀ u∈encW (x,.slice a n c),u.oneCell'=true:=by
 intro u hu;simp only [encW,List.mem_cons,List.not_mem_nil,or_false] at hu
 rcases hu with rfl | rfl | rfl <;> rfl
theorem Zfd {W:World}{lo lo2 hi n size2:Nat}{v:Value}{xs:List Value}{q:WP}(hq:Zbv W lo hi q)(hr:W.ownsRow lo2 194 size2 v n xs)(j:Nat)(hj:q.2.ownBlock=some j):some j≠v.ownBlock:=by
 intro e
 rcases hr.2 with ⟨h0,_⟩ | ⟨g,cap,cur,hv,_,hh,_⟩
 ·rw [h0] at e;simp [Value.ownBlock] at e
 ·rw [hv] at e
  simp [Value.ownBlock] at e
  subst e;exact Zat hq.1 hh (by decide) hj.symm
theorem WaysOwn.push {W Wa W2:World}{lo:Nat}{v v':Value}{qs:List WP}{p:WP}(h:WaysOwn W lo W.heap.size v qs)(hb:Below W.heap.size W Wa)(hlo:lo<=W.heap.size)(hp:Zbv Wa W.heap.size Wa.heap.size p)
  (row:W2.ownsRow lo 194 3 v' (qs.length+1) (flat encW (qs++[p]))) (hg:Wa.grownBy W2 v.ownBlock):WaysOwn W2 lo W2.heap.size v' (qs++[p]) where
 row:=by simpa using row
 top:=fun k hk=>(row.lt k hk).2
 apart:=Zlh h.apart h.nears (fun k hk=>(hp.1.lt k hk).1)
 nears:=by
  have rowa:=Zae h.row hb (Nat.le_refl _);have key:∀ q,Zbv Wa lo Wa.heap.size q->Zbv W2 lo W2.heap.size q:=fun q hq=>
   ⟨Zan hq.1 (fun j hj=>hg.block j (hq.2 j hj) (Zfd hq rowa j hj)),fun k hk=>Nat.lt_of_lt_of_le (hq.2 k hk) hg.size⟩
  intro q hq
  rcases List.mem_append.1 hq with h1 | h1
  ·exact key q (((h.nears q h1).keep (W':=Wa) (fun j _ h2 _=>hb.block j h2)).wide (Nat.le_refl _) hb.size)
  ·have:q=p:=by simpa using h1
   subst this;exact key q (hp.wide hlo (Nat.le_refl _))
structure IntsOwn (W:World) (lo hi:Nat) (v:Value) (l:List Int):Prop where
 row:W.ownsRow lo 3 1 v l.length (flat intE l)
 top:∀ k,v.ownBlock=some k->k<hi
theorem IntsOwn.keep {W W':World}{lo hi:Nat}{v:Value}{l:List Int}(h:IntsOwn W lo hi v l)(hk:∀ k,lo<=k->k<hi->k<W.heap.size->W'.heap[k]? = W.heap[k]?):IntsOwn W' lo hi v l:=
 ⟨Zan h.row (fun k e=>hk k (h.row.lt k e).1 (h.top k e) (h.row.lt k e).2),h.top⟩
theorem IntsOwn.below {W W':World}{lo hi B:Nat}{v:Value}{l:List Int}(h:IntsOwn W lo hi v l)(hb:Below B W W')(hB:hi<=B):IntsOwn W' lo hi v l:=h.keep (fun k _ h2 _=>hb.block k (by omega))
theorem IntsOwn.frame {W W':World}{lo hi l2 h2:Nat}{v:Value}{l:List Int}(h:IntsOwn W lo hi v l)(hb:Frame l2 h2 W W')(hB:hi<=l2\/h2<=lo):IntsOwn W' lo hi v l:=h.keep (fun k h1 h2 h3=>hb.block k h3 (by omega))
theorem IntsOwn.wide {W:World}{lo hi lo' hi':Nat}{v:Value}{l:List Int}(h:IntsOwn W lo hi v l)(hl:lo'<=lo)(hh:hi<=hi'):IntsOwn W lo' hi' v l:=⟨Zaj h.row hl,fun k e=>Nat.lt_of_lt_of_le (h.top k e) hh⟩
theorem IntsOwn.at {W:World}{lo hi:Nat}{v:Value}{l:List Int}(h:IntsOwn W lo hi v l):ZaM W v l hi:=by
 obtain⟨a,cap,hv,h2⟩:=Zap h.row;refine⟨a,cap,hv,?_⟩
 rcases h2 with h0 | ⟨b,off,ha,hb1,hx⟩
 ·exact .inl h0
 ·exact .inr ⟨b,off,ha,h.top b (by rw [hv,ha];rfl),hx⟩
theorem IntsOwn.of {W:World}{lo:Nat}{v:Value}{l:List Int}(h:W.ownsRow lo 3 1 v l.length (flat intE l)):IntsOwn W lo W.heap.size v l:=⟨h,fun k e=>(h.lt k e).2⟩
theorem ZmG (n:Nat)(w:World)(hn:n<=1000000):
  Calls Tryz.prog 210 #[.slice none 0 0,.int .i64 (n:Int)] w fun e w'=>∃ x,e=.returned x/\w'.ownsRow w.heap.size 39 8 x 0 []/\Below w.heap.size w w':=by
 by_cases h0:n=0
 ·subst h0
  have h:=Any8.slices_Grow_room Tryz.growR none 0 0 0 w (Nat.le_refl _) (by omega) (by omega) (by omega)
  change Calls Tryz.prog 210 _ _ _ at h
  exact h.mono fun e w' ⟨h1,h2⟩=>⟨_,h1,by rw [h2];exact World.ownsRow_nil _ _ _ _,by rw [h2];exact Below.refl _ _⟩
 ·have hi:=Tryz.infoRec
  cases hf:Tryz.prog.info? 39 with
  | none=>rw [hf] at hi;cases hi
  | some i0=>
   rw [hf] at hi;simp only [Option.map_some,Option.some.injEq,Prod.mk.injEq] at hi
   obtain⟨hz,hs,hb⟩:=hi;have h:=Any8.slices_Grow_grow Tryz.growR i0 (.agg (recC Za6 (.slice none 0 0))) hf hz (by rw [hs];omega) none 0 0 n [] w (by omega) (by omega) (by rw [hb];omega) (by omega) (by simp) (fun _=>rfl) (fun a ha=>by cases ha)
   change Calls Tryz.prog 210 _ _ _ at h
   refine h.mono fun e w' ⟨h1,h2⟩=>⟨_,h1,?_,?_⟩
   ·rw [h2]
    have hg:=grownCap_ge w (0+n) 0 39;have hm:=grownCap_le_maxLen w (0+n) 0 39 (by unfold maxLen;omega)
    exact World.ownsRow_made (base:=w.heap.size) (e:=39) (size:=8) w.drew _ _ (Nat.le_refl _) hm (by
     rw [Array.size_append,Array.size_append,size_zeroCells,size_zeroCells];rw [show (Value.cells (.agg (recC Za6 (.slice none 0 0)))).size=8 from rfl]
     simp only [List.size_toArray,List.length_nil]
     change 0+(0+n-0)*8+(grownCap w (0+n) 0 39-(0+n))*8=grownCap w (0+n) 0 39*8
     omega)
   ·rw [h2]
    exact (Below.refl w.heap.size w).drew.alloc (Nat.le_refl _) _
theorem Zjx (ls:List (Value × List RP))(b:Nat)(w:World)(hb:∀ j x,ls[j]? = some x->w.cell? ⟨b,j,none⟩=some x.1)(hrows:∀ x∈ls,∃ base,w.ownsRow base 39 8 x.1 x.2.length (flat encP x.2))(hone:∀ x∈ls,∀ p∈x.2,∀ u∈encP p,u.oneCell'=true)(hn:sumL ls<=1000000)(hbl:b<w.heap.size)(hl:ls.length<=10):
  Calls Tryz.prog 157 #[.slice (some ⟨b,0,none⟩) ls.length ls.length] w fun e w'=>∃ x,e=.returned x/\w'.ownsRow w.heap.size 39 8 x (ZeN ls).length (flat encP (ZeN ls))/\Below w.heap.size w w':=by
 have HC:=hide hb;have HR:=hide hrows;have HO:=hide hone;have HG:=hide (fun W=>ZmG (sumL ls) W hn)
 clear hb hrows hone
 go_enter Tryz.func157,Tryz.ntmps157
 go_wp2
 go_loopw [11,3] (fun i s wr=>∃ (k:Nat),k<=ls.length/\i=.int .i64 (k:Int)/\s=.int .i64 ((sumL (ls.take k):Nat):Int)/\Below w.heap.size w wr) (fun i _ _=>ls.length-(intOf i).toNat)
 case atStart=>exact ⟨0,by omega,rfl,rfl,Below.refl _ _⟩
 case round=>
  obtain⟨k,hk,rfl,rfl,hnx⟩:=hrel;have hle:=Zh8 ls k;by_cases hlt:k<ls.length
  ·obtain ⟨x,hx⟩:∃ x,ls[k]? = some x:=⟨ls[k],List.getElem?_eq_getElem hlt⟩
   have c0:=HC.out k x hx;rw [<-hnx.cell (p:=⟨b,k,none⟩) hbl] at c0;obtain⟨base,hrow⟩:=HR.out x (List.mem_of_getElem? hx);obtain⟨xa,xc,hxe⟩:=Zac hrow;rw [hxe] at c0;have hst:=Zjd hx;have hle2:=Zh8 ls (k+1);have hki:(0:Int)<=(k:Int):=by omega
   have hkj:(k:Int)<(ls.length:Int):=by omega
   have hneg:¬((sumL (ls.take k):Int)+(x.2.length:Int)<0):=by omega
   have hb2:(sumL (ls.take k):Int)+(x.2.length:Int)<=1000000:=by omega
   have HST:=hide hst;have HN:=hide hnx;clear hx hrow hxe hnx hst hle hle2
   go_wp2
   go_roundw
   case rel=>exact ⟨k+1,by omega,by go_num,by rw [HST.out];simp,HN.out⟩
   case measure=>simp [intOf];omega
  ·have hkn:¬(k:Int)<(ls.length:Int):=by omega
   have hke:ls.take k=ls:=List.take_of_length_le (by omega)
   rw [hke];have HN:=hide hnx;clear hke hle hnx
   go_wp2_with fail
   refine (HG.out _).mono ?_
   rintro e w1 ⟨x0,rfl,ho1,b1⟩;obtain⟨xa,xc,rfl⟩:=Zac ho1;have hb1:=b1.size;have hws:=HN.out.size;have HB1:=hide (HN.out.trans (b1.mono hws));have HO1:=hide (Zaj ho1 hws);clear ho1 b1 HN HG
   rename World=>wq
   go_wp2
   go_loopw [27,6] (fun i o wr=>∃ (k:Nat) (x:Value),k<=ls.length/\i=.int .i64 (k:Int)/\o=x/\wr.ownsRow w.heap.size 39 8 x (ZeN (ls.take k)).length (flat encP (ZeN (ls.take k)))/\Below w.heap.size w wr) (fun i _ _=>ls.length-(intOf i).toNat)
   case atStart=>exact ⟨0,_,by omega,rfl,rfl,HO1.out,HB1.out⟩
   case round=>
    obtain⟨j,y,hj,rfl,rfl,hown,hnx⟩:=hrel;clear HO1 HB1;obtain⟨ya,yc,rfl⟩:=Zac hown;have hle:=Zh8 ls j;have hsz:=hnx.size;by_cases hlt:j<ls.length
    ·obtain ⟨x,hx⟩:∃ x,ls[j]? = some x:=⟨ls[j],List.getElem?_eq_getElem hlt⟩
     have c0:=HC.out j x hx;rw [<-hnx.cell (p:=⟨b,j,none⟩) hbl] at c0;obtain⟨base,hrow⟩:=HR.out x (List.mem_of_getElem? hx);have hrow2:=Zae hrow hnx (Nat.le_refl _);obtain⟨za,zc,hxe⟩:=Zac hrow;rw [hxe] at c0 hrow2;have hst:=Zjd hx;have hle2:=Zh8 ls (j+1);have hjt:=ZlC hx;have hjl:=Zm0 (ls.take j);have hki:(0:Int)<=(j:Int):=by omega
     have hkj:(j:Int)<(ls.length:Int):=by omega
     have HX:=hide hrow2;have HW:=hide hown;have HN:=hide hnx;have HJT:=hide hjt;have HX1:=hide (HO.out x (List.mem_of_getElem? hx));have hbd:(ZeN (ls.take j)).length+x.2.length<=1000000000:=by omega
     clear hx hrow hrow2 hxe hnx hown hst hjt hle hle2 hjl
     go_wp2_with (first
      | (at_builtin;refine Zef (fun l=>ZaF Zav l) (by omega) (by omega) _ rfl _ _ 29 rfl w.heap.size 39 Tryz.underlying29 (.agg (recC Za6 (.slice none 0 0))) rfl Tryz.infoRec _ (ZeN (ls.take j)) rfl HW.out base _ x.2 HX1.out rfl HX.out (by omega) (by omega) ?_))
     intro v' w4 hown' hgrow;have N1:=hide (show w4.ownsRow w.heap.size 39 8 v' (ZeN (ls.take (j+1))).length (flat encP (ZeN (ls.take (j+1)))) by rw [HJT.out,List.length_append];exact hown')
     have N2:=hide (HN.out.grown hgrow (by omega) (fun k hk=>(HW.out.lt k hk).1))
     obtain⟨va,vc,rfl⟩:=Zac hown';clear hown' hgrow HX HW HN HJT HX1
     go_wp2
     go_roundw
     case rel=>exact ⟨j+1,_,by omega,by go_num,rfl,N1.out,N2.out⟩
     case measure=>simp [intOf];omega
    ·have hkn2:¬(j:Int)<(ls.length:Int):=by omega
     have hke:ls.take j=ls:=List.take_of_length_le (by omega)
     rw [hke] at hown |-;have HW:=hide hown;have HN:=hide hnx;clear hown hnx hke hle
     go_wp2
     go_ret
     exact⟨_,rfl,HW.out,HN.out⟩
theorem ZaU {P:Program}(w:World)(dT sT ty elem:TypeId)(g o dLen dCap:Nat)(a:Addr)(sLen sCap sz:Nat)(cur:Array Value)(t:TypeId)(cs:List Value)
  (hu:P.underlying dT=some (.slice elem)) (hs:(P.info? elem).map (·.size)=some sz)
  (hg:w.heap[g]? = some (.cells cur t (0,0))) (hn:cs.length=Nat.min sLen dLen*sz)
  (hsrc:∀ j v,cs[j]? = some v->w.cell? (a.add j)=some v) (hfit:o+cs.length<=cur.size) (h1:∀ v∈cs,v.oneCell'=true):
  (Builtin.copy_ #[dT,sT] ty #[.slice (some ⟨g,o,none⟩) dLen dCap,.slice (some a) sLen sCap]).run P w =
   .ok (goInt (Nat.min sLen dLen)) (w.setRow g (cur.toList.take o++cs++cur.toList.drop (o+cs.length)).toArray):=by
 have hl:=run_loadCells_list (P:=P) w a cs hsrc;have hst:=run_storeCells_at P g o t cs 0 cur w hg (by simpa using hfit) h1
 cases hq:P.info? elem with
 | none=>simp [hq] at hs
 | some i=>
  have hi:i.size=sz:=by simpa [hq] using hs
  simp [Builtin.copy_,run_underlying hu,Builtin.lenOf,Builtin.firstCells,sizeOf,typeInfo,hq,hi, <-hn,hl,hst]
theorem Zds {P:Program}(w:World)(t t2 ty e:TypeId)(i:TypeInfo)(ht:P.underlying t=some (.slice e))(ht2:P.underlying t2=some (.slice e))(hi:P.info? e=some i)(b:Option Addr)(n c:Nat)(x:Value):
  (Builtin.append_ #[t,t2] ty #[.slice b n c,x]).run P w=(Builtin.append_ #[t,t] ty #[.slice b n c,x]).run P w:=by
 simp [Builtin.append_,run_underlying ht,run_underlying ht2,sizeOf,typeInfo,hi]
theorem ZnA (cur D R:List Value)(a d:Nat)(hD:D.length=d)(hR:R.length=8)(hc:a+8+d<=cur.length):
  ((cur.take (a+8)++D++cur.drop (a+8+D.length)).take a++R++(cur.take (a+8)++D++cur.drop (a+8+D.length)).drop (a+R.length))=cur.take a++R++D++cur.drop (a+8+d):=by
 have e1:(cur.take (a+8)++D++cur.drop (a+8+D.length)).take a=cur.take a:=by
  rw [List.append_assoc,List.take_append_of_le_length (by simp;omega),List.take_take,Nat.min_eq_left (by omega)]
 have e2:(cur.take (a+8)++D++cur.drop (a+8+D.length)).drop (a+R.length)=D++cur.drop (a+8+d):=by
  rw [hR,List.append_assoc,List.drop_append_of_le_length (by simp;omega),List.drop_of_length_le (by simp;omega),List.nil_append,hD]
 rw [e1,e2,List.append_assoc,List.append_assoc,List.append_assoc]
theorem ZbT {A B C D:List Value}{n:Nat}(h:A.length+B.length+C.length=n):(A++B++C++D).take n=A++B++C:=by
 rw [List.take_append_of_le_length (by simp;omega),List.take_of_length_le (by simp;omega)]
theorem Zdv (ps:List RP)(i:Nat)(h:i<=ps.length):(flat encP ps).take (i*8)=flat encP (ps.take i):=by
 conv=>lhs;rw [<-List.take_append_drop i ps,ZaH]
 have e:(flat encP (ps.take i)).length=i*8:=by rw [ZaF Zav,List.length_take,Nat.min_eq_left h]
 rw [<-e,List.take_left]
theorem ZeL (ps:List RP)(i:Nat)(h:i<=ps.length):(flat encP ps).drop (i*8)=flat encP (ps.drop i):=by
 conv=>lhs;rw [<-List.take_append_drop i ps,ZaH]
 have e:(flat encP (ps.take i)).length=i*8:=by rw [ZaF Zav,List.length_take,Nat.min_eq_left h]
 rw [<-e,List.drop_left]
theorem Zoh (r:RP):flat encP [r]=encP r:=by simp [flat]
theorem ZdS (ps:List RP)(r:RP)(i:Nat):flat encP (ps.take i++[r]++ps.drop i)=flat encP (ps.take i)++encP r++flat encP (ps.drop i):=by
 rw [ZaH,ZaH,Zoh]
theorem Zf6 (ps:List RP)(r:RP)(i:Nat)(h:i<=ps.length):(ps.take i++[r]++ps.drop i).length=ps.length+1:=by
 simp
 omega
theorem ZcW (ps:List RP)(h:∀ p∈ps,∃ a n c,p.2=.slice a n c):∀ u∈flat encP ps,u.oneCell'=true:=by
 intro u hu;simp only [flat,List.mem_flatMap] at hu
 obtain⟨p,hp,hu⟩:=hu;obtain⟨a,n,c,e⟩:=h p hp;obtain⟨x,v⟩:=p;simp only at e
 subst e;exact ZbS x a n c u hu
theorem Zd4.symm {p q:RP}(h:Zd4 p q):Zd4 q p:=fun k hk hp=>h k hp hk
theorem Zg6 {W W2:World}{lo:Nat}{v:Value}{ps:List RP}(h:RecsOwn W lo W.heap.size v ps)(hg:W.grownBy W2 v.ownBlock){q:RP}(hq:ZaD W lo W.heap.size q):ZaD W2 lo W2.heap.size q:=
 ⟨Zan hq.1 (fun j hj=>hg.block j (hq.2 j hj) (ZcN hq h.row j hj)),fun k hk=>Nat.lt_of_lt_of_le (hq.2 k hk) hg.size⟩
theorem RecsOwn.put {W:World}{lo i g cap n:Nat}{ps:List RP}{r:RP}(h:RecsOwn W lo W.heap.size (.slice (some ⟨g,0,none⟩) n cap) ps)(hn:n=ps.length)(hr:ZaD W lo W.heap.size r)(hap:∀ p∈ps,Zd4 p r)(hi:i<ps.length):RecsOwn (putP W g (i*8) r) lo (putP W g (i*8) r).heap.size (.slice (some ⟨g,0,none⟩) n cap) (ps.set i r):=by
 subst hn;have hst:=Znq (p:=r) h.row hi;have hg:W.grownBy (putP W g (i*8) r) (Value.slice (some ⟨g,0,none⟩) ps.length cap).ownBlock:=Zd1 W g (i*8) r;refine⟨by simpa using hst,fun k hk=>(hst.lt k hk).2,?_,?_⟩
 ·intro q hq
  refine Zg6 h hg ?_
  rcases List.mem_or_eq_of_mem_set hq with h1 | h1
  ·exact h.nears q h1
  ·subst h1;exact hr
 ·have hp:=h.apart
  rw [List.pairwise_iff_getElem] at hp |-;intro a b ha hb hab;simp only [List.length_set] at ha hb
  rw [List.getElem_set,List.getElem_set];by_cases e1:i=a
  ·rw [if_pos e1,if_neg (by omega)]
   exact (hap _ (List.getElem_mem hb)).symm
  ·rw [if_neg e1]
   by_cases e2:i=b
   ·rw [if_pos e2]
    exact hap _ (List.getElem_mem ha)
   ·rw [if_neg e2]
    exact hp a b ha hb hab
theorem ZkD (ps:List RP)(r:RP)(i:Nat):fsts (ps.take i++[r]++ps.drop i)=(fsts ps).take i++[r.1]++(fsts ps).drop i:=by simp [fsts]
theorem ZkE (ps:List RP)(r:RP)(i:Nat):fsts (ps.set i r)=(fsts ps).set i r.1:=by simp [fsts,List.map_set]
end Go.Proofs.YtadokhjefnkajaaGreat
