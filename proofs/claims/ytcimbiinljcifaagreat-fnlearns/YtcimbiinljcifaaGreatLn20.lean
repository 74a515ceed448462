/-
  PutI RowsN Law5K MergedI MergeI InstI NearLen InstT SameR
-/
import Derived.Test.YtcimbiinljcifaaGreatLn17
import Derived.Test.YtcimbiinljcifaaGreatLn19
import Derived.Test.YtcimbiinljcifaaGreatLn7
import Derived.Test.YtcimbiinljcifaaGreatLn12
import Derived.Test.YtcimbiinljcifaaGreatLn10
import Derived.Test.YtcimbiinljcifaaGreatLn8
import Derived.Deep.RegionHeld3
namespace Go.Proofs.YtcimbiinljcifaaGreat
open Go.RowKit
set_option linter.unusedSimpArgs false
set_option linter.unusedVariables false
set_option maxRecDepth 100000
set_option maxHeartbeats 8000000
theorem Zll {W:World}{lo hi:Nat}{r:RP}(h:Zat W lo hi r):∀ u∈encP r,u.oneCell'=true:=by
 obtain⟨a,c,e⟩:=Zac h.1;obtain⟨x,v⟩:=r;simp only at e
 subst e;exact Zbm x a _ c
theorem Zji (lo i vb:Nat)(v:Value)(ps:List RP)(r:RP)(w:World)(hv:RecsOwn w lo w.heap.size v ps)(hlo:lo<=w.heap.size)(hi:i<=ps.length)(hn:ps.length<=1048576)(hvb:w.heap[vb]? = some (.cells (encP r).toArray 40 (0,0)))(hne:some vb≠v.ownBlock)(hr1:∀ u∈encP r,u.oneCell'=true):
  Calls Tryz.prog 107 #[v,.int .i64 (i:Int),.slice (some ⟨vb,0,none⟩) 1 1] w fun e w'=>∃ v',e=.returned v'/\w'.ownsRow lo 40 8 v' (ps.length+1) (flat encP (ps.take i++[r]++ps.drop i))/\Zex w w' v.ownBlock v':=by
 by_cases he:i=ps.length
 ·rw [he]
  exact Zmh lo ps.length 1 vb v ps r w rfl rfl hlo hn hv.row hvb hr1
 ·have hone:∀ p∈ps,∃ a k c,p.2=.slice a k c:=fun p hp=>by
   obtain⟨a,c,e⟩:=Zac (hv.nears p hp).1;exact⟨a,_,c,e⟩
  rcases hv.row.2 with ⟨_,h0⟩ | ⟨g,cap,cur,hve,_⟩
  ·omega
  ·subst hve
   have hne2:vb≠g:=fun e=>hne (by rw [e];rfl)
   by_cases hroom:ps.length+1<=cap
   ·exact Zj9 lo g cap ps.length 1 i vb ps r w rfl rfl hv.row (by omega) hroom hvb hne2 hone hr1
   ·exact Zk8 lo g cap ps.length 1 i vb ps r w rfl rfl hlo hn hv.row (by omega) (by omega) hvb hone hr1
theorem RecsOwn.ins {W W2:World}{lo i:Nat}{v v':Value}{ps:List RP}{r:RP}(h:RecsOwn W lo W.heap.size v ps)(hr:Zat W lo W.heap.size r)(hap:∀ p∈ps,Zef p r)(hi:i<=ps.length)
  (row:W2.ownsRow lo 40 8 v' (ps.length+1) (flat encP (ps.take i++[r]++ps.drop i))) (hg:W.grownBy W2 v.ownBlock):RecsOwn W2 lo W2.heap.size v' (ps.take i++[r]++ps.drop i) where
 row:=by rw [Zh8 ps r i hi];exact row
 top:=fun k hk=>(row.lt k hk).2
 nears:=by
  intro q hq;refine Zf3 h hg ?_
  rcases List.mem_append.1 hq with h1 | h1
  ·rcases List.mem_append.1 h1 with h2 | h2
   ·exact h.nears q (List.mem_of_mem_take h2)
   ·have:q=r:=by simpa using h2
    subst this;exact hr
  ·exact h.nears q (List.mem_of_mem_drop h1)
 apart:=by
  have hp:=h.apart;rw [<-List.take_append_drop i ps,List.pairwise_append] at hp;rw [List.append_assoc,List.pairwise_append];refine⟨hp.1,?_,?_⟩
  ·rw [List.pairwise_append]
   refine⟨by simp,hp.2.1,?_⟩
   intro a ha b hb;have:a=r:=by simpa using ha
   subst this;exact (hap b (List.mem_of_mem_drop hb)).symm
  ·intro a ha b hb
   rcases List.mem_append.1 hb with h1 | h1
   ·have:b=r:=by simpa using h1
    subst this;exact hap a (List.mem_of_mem_take ha)
   ·exact hp.2.2 a ha b h1
structure PutFine (v:Value) (ps:List RP) (r:RP) (w w':World) (x:Value) (qs:List RP):Prop where
 keep:∀ k,k<w.heap.size->v.ownBlock≠some k->w'.heap[k]? = w.heap[k]?
 row:∀ k,x.ownBlock=some k->v.ownBlock=some k\/w.heap.size<=k
 near:∀ q∈qs,q∈ps\/q.2=r.2
theorem Zka (v:Value)(ps:List RP)(lo:Nat)(r:RP)(w:World)(hv:RecsOwn w lo w.heap.size v ps)(hlo:lo<=w.heap.size)(hn:tot ps<=1048576)(hasc:Asc (fsts ps))(hr:Zat w lo w.heap.size r)(hap:∀ p∈ps,Zef p r):
  Calls Tryz.prog 67 #[v,.agg (recC r.1 r.2)] w fun e w'=>∃ x qs,e=.returned x/\fsts qs=putD (fsts ps) r.1/\RecsOwn w' lo w'.heap.size x qs/\Below lo w w'/\PutFine v ps r w w' x qs:=by
 have hnl:=Za3 ps;have hfl:(fsts ps).length=ps.length:=by simp [fsts]
 obtain⟨a1,c1,hve⟩:=Zac hv.row;obtain⟨ra,rc,hrn⟩:=Zac hr.1;have BX:Below w.heap.size w (w.alloc (.cells #[.int .i64 r.1.area,.int .i64 r.1.kind,.int .i64 r.1.owner,.int .i64 r.1.key,.int .i64 r.1.seq,.slice ra r.1.near.length rc,.int .i64 r.1.cost,.bool r.1.far] 40)):=(Below.refl _ _).alloc (Nat.le_refl _) _;have hx:=heap_alloc_new w (.cells #[.int .i64 r.1.area,.int .i64 r.1.kind,.int .i64 r.1.owner,.int .i64 r.1.key,.int .i64 r.1.seq,.slice ra r.1.near.length rc,.int .i64 r.1.cost,.bool r.1.far] 40);obtain⟨w0,hw0⟩:∃ w0,w0=w.alloc (.cells #[.int .i64 r.1.area,.int .i64 r.1.kind,.int .i64 r.1.owner,.int .i64 r.1.key,.int .i64 r.1.seq,.slice ra r.1.near.length rc,.int .i64 r.1.cost,.bool r.1.far] 40):=⟨_,rfl⟩;rw [<-hw0] at BX hx;have hs0:=Zab hx;have hv0:=hv.below BX (Nat.le_refl _);have hr0:=hr.keep (W':=w0) (fun k _ _ h3=>BX.block k h3)
 have HS:=ZjB v ps w.heap.size r w0 hv0.in BX.size hn (hr0.wide (Nat.zero_le _) (Nat.le_refl _)) (by rw [<-hfl];exact ZkU hasc r.1)
 have d0:=Zaa hx 0;have d1:=Zaa hx 1;have d2:=Zaa hx 2;have d3:=Zaa hx 3;have d4:=Zaa hx 4;have d5:=Zaa hx 5;have d6:=Zaa hx 6;have d7:=Zaa hx 7;simp at d0 d1 d2 d3 d4 d5 d6 d7
 have HV:=hide hv0;have HR:=hide hr0;have HA:=hide hasc;have HP:=hide hap;have H1:=hide hr;have HFL:=hide hfl;have HRN:=hide hrn;have HVE:=hide hve;unfold recC at *;rw [hrn] at HS |-;subst hve;have HSS:=hide HS;clear HS hv0 hr0 hasc hap hr hrn hv hfl
 go_enter Tryz.func67,Tryz.ntmps67
 go_wp2_with fail
 rw [<-hw0];clear hw0;refine HSS.out.mono ?_
 rintro e w1 ⟨i,f,rfl,hil,q1,q2,q3,b1⟩;have b1s:=b1.size;have hx1:=(b1.block _ hs0).trans hx;have B1:Below w.heap.size w w1:=BX.trans (b1.mono BX.size);have hv1:=(HV.out.below b1 (by omega)).wide (Nat.le_refl _) (show w.heap.size<=w1.heap.size by omega)
 have hr1:=((HR.out).keep (W':=w1) (fun k _ _ h3=>b1.block k h3)).wide (Nat.le_refl _) (show w.heap.size<=w1.heap.size by omega)
 have Q1:=hide q1;have Q2:=hide q2;have Q3:=hide q3;clear q1 q2 q3 d0 d1 d2 d3 d4 d5 d6 d7 hx b1;have d0:=Zaa hx1 0;have d1:=Zaa hx1 1;have d2:=Zaa hx1 2;have d3:=Zaa hx1 3;have d4:=Zaa hx1 4;have d5:=Zaa hx1 5;have d6:=Zaa hx1 6;have d7:=Zaa hx1 7;simp at d0 d1 d2 d3 d4 d5 d6 d7
 have hii:(0:Int)<=(i:Int):=by omega
 cases f with
 | true=>
  have hil2:i<ps.length:=by
   obtain⟨x,hx,_⟩:=Q3.out.1 rfl;have:=(List.getElem?_eq_some_iff.1 hx).1;rw [HFL.out] at this;exact this
  have hij:(i:Int)<(ps.length:Int):=by omega
  rcases hv1.row.2 with ⟨_,h0⟩ | ⟨g,cap,cur,hve,_⟩
  ·omega
  ·cases hve
   have hpr:r=(r.1,.slice ra r.1.near.length rc):=by rw [<-HRN.out]
   have hfin:=hv1.put (i:=i) rfl hr1 HP.out hil2;have hg:=Zer w1 g (i*8) r;have hgl:=hv1.row.lt g rfl;have hB:Below lo w (putP w1 g (i*8) r):=(B1.mono hlo).grown hg (by omega) (fun k hk=>by simp at hk;omega)
   have hl:fsts (ps.set i r)=putD (fsts ps) r.1:=by
    obtain⟨x,hx,h0⟩:=Q3.out.1 rfl;obtain⟨hi2,ex⟩:=List.getElem?_eq_some_iff.1 hx;rw [Zk2,ZlB HA.out hi2 Q1.out (by rw [HFL.out];exact Q2.out) (by rw [ex];exact h0)]
   obtain⟨y0,f0⟩:=Zb3 hv1.row (i*8) (by omega)
   obtain⟨y1,f1⟩:=Zb3 hv1.row (i*8+1) (by omega)
   obtain⟨y2,f2⟩:=Zb3 hv1.row (i*8+2) (by omega)
   obtain⟨y3,f3⟩:=Zb3 hv1.row (i*8+3) (by omega)
   obtain⟨y4,f4⟩:=Zb3 hv1.row (i*8+4) (by omega)
   obtain⟨y5,f5⟩:=Zb3 hv1.row (i*8+5) (by omega)
   obtain⟨y6,f6⟩:=Zb3 hv1.row (i*8+6) (by omega)
   obtain⟨y7,f7⟩:=Zb3 hv1.row (i*8+7) (by omega)
   have fz:=fun j=>hv1.row.frozenAt j
   have hne:g≠w.heap.size:=by
    intro e;have h5:=HV.out.top g rfl;omega
   have hpf:∀ r':RP,r'=r->PutFine (.slice (some ⟨g,0,none⟩) ps.length c1) ps r w (putP w1 g (i*8) r') (.slice (some ⟨g,0,none⟩) ps.length c1) (ps.set i r'):=by
    rintro r' rfl;refine⟨fun k h1 h2=>?_,fun k hk=>.inl hk,fun q hq=>?_⟩
    ·rw [(Zer w1 g (i*8) r').block k (by omega) (fun e=>h2 e.symm)]
     exact B1.block k h1
    ·rcases List.mem_or_eq_of_mem_set hq with h | h
     ·exact .inl h
     ·exact .inr (by rw [h])
   have HPF:=hide (hpf _ hpr.symm);clear hpf;rw [hpr] at hfin hB hl;have HF:=hide hfin;have HB:=hide hB;have HL:=hide hl;clear hfin hB hl hpr hg hv1 hr1
   go_wp2
   go_ret
   first
    | exact ⟨_,ps.set i (r.1,.slice ra r.1.near.length rc),rfl,HL.out,HF.out,HB.out,HPF.out⟩
    | exact ⟨_,rfl,ps.set i (r.1,.slice ra r.1.near.length rc),HL.out,HF.out,HB.out,HPF.out⟩
 | false=>
  have hl:fsts (ps.take i++[r]++ps.drop i)=putD (fsts ps) r.1:=by
   rw [Zk1,ZlA HA.out (by rw [HFL.out];exact hil) Q1.out (by rw [HFL.out];exact Q2.out) (fun h=>by have:=Q3.out.2 h;cases this)]
  have HL:=hide hl;clear hl;have BY:Below w1.heap.size w1 (w1.alloc (.cells #[.int .i64 r.1.area,.int .i64 r.1.kind,.int .i64 r.1.owner,.int .i64 r.1.key,.int .i64 r.1.seq,.slice ra r.1.near.length rc,.int .i64 r.1.cost,.bool r.1.far] 40)):=(Below.refl _ _).alloc (Nat.le_refl _) _;have hy:=heap_alloc_new w1 (.cells #[.int .i64 r.1.area,.int .i64 r.1.kind,.int .i64 r.1.owner,.int .i64 r.1.key,.int .i64 r.1.seq,.slice ra r.1.near.length rc,.int .i64 r.1.cost,.bool r.1.far] 40);obtain⟨w2,hw2⟩:∃ w2,w2=w1.alloc (.cells #[.int .i64 r.1.area,.int .i64 r.1.kind,.int .i64 r.1.owner,.int .i64 r.1.key,.int .i64 r.1.seq,.slice ra r.1.near.length rc,.int .i64 r.1.cost,.bool r.1.far] 40):=⟨_,rfl⟩;rw [<-hw2] at BY hy;have hv2:=(hv1.below BY (Nat.le_refl _)).wide (Nat.le_refl _) BY.size;have hr2:=(hr1.keep (W':=w2) (fun k _ _ h3=>BY.block k h3)).wide (Nat.le_refl _) BY.size
  have HI:=Zji lo i w1.heap.size _ ps r w2 hv2 (by have:=BY.size;omega) hil (by omega) (by
   rw [hy];unfold encP;rw [HRN.out]) (fun e=>by
    have h6:=hv1.top _ e.symm;omega) (Zll hr2)
  have HII:=hide HI;have HV2:=hide hv2;have HR2:=hide hr2;have B2:Below w.heap.size w w2:=B1.trans (BY.mono (by omega))
  have hb2:=BY.size;clear HI hv1 hr1 hv2 hr2
  go_wp2_with fail
  rw [<-hw2];clear hw2;refine HII.out.mono ?_
  rintro e w3 ⟨x,rfl,hrow,hg,hgv⟩;have hfin:=HV2.out.ins HR2.out HP.out hil hrow hg;have hB:Below lo w w3:=(B2.mono hlo).grown hg (by omega) (fun k hk=>(HV2.out.row.lt k hk).1)
  obtain⟨xa,xc,rfl⟩:=Zac hrow;have hpf:PutFine (.slice a1 ps.length c1) ps r w w3 (.slice xa (ps.length+1) xc) (ps.take i++[r]++ps.drop i):=by
   refine⟨fun k h1 h2=>?_,fun k hk=>?_,fun q hq=>?_⟩
   ·rw [hg.block k (by have:=B2.size;omega) (fun e=>h2 e.symm)]
    exact B2.block k h1
   ·rcases hgv k hk with h | h
    ·exact .inl h
    ·exact .inr (by have:=B2.size;omega)
   ·rcases List.mem_append.1 hq with h | h
    ·rcases List.mem_append.1 h with h | h
     ·exact .inl (List.mem_of_mem_take h)
     ·exact .inr (by rw [List.mem_singleton.1 h])
    ·exact .inl (List.mem_of_mem_drop h)
  have HPF:=hide hpf;have HF:=hide hfin;have HB:=hide hB;clear hfin hB hrow hg hgv hpf
  go_wp2
  go_ret
  first
   | exact ⟨_,_,rfl,HL.out,HF.out,HB.out,HPF.out⟩
   | exact ⟨_,rfl,_,HL.out,HF.out,HB.out,HPF.out⟩
def Zgo (v:Value)(ps:List RP)(k:Nat):Prop:=v.ownBlock=some k\/∃ p∈ps,p.2.ownBlock=some k
structure FrameS (S:Nat->Prop) (w w':World):Prop where
 os:w'.os=w.os
 tape:w'.tape=w.tape
 output:w'.output=w.output
 size:w.heap.size<=w'.heap.size
 block:∀ k,k<w.heap.size->¬S k->w'.heap[k]? = w.heap[k]?
theorem FrameS.refl (S:Nat->Prop)(w:World):FrameS S w w:=⟨rfl,rfl,rfl,Nat.le_refl _,fun _ _ _=>rfl⟩
theorem FrameS.trans {S:Nat->Prop}{a b c:World}(h:FrameS S a b)(k:FrameS S b c):FrameS S a c:=
 ⟨k.os.trans h.os,k.tape.trans h.tape,k.output.trans h.output,Nat.le_trans h.size k.size,fun i hi hr=>(k.block i (Nat.lt_of_lt_of_le hi h.size) hr).trans (h.block i hi hr)⟩
theorem FrameS.grown {S:Nat->Prop}{a b:World}{row:Option Nat}(g:a.grownBy b row)(hr:∀ k,row=some k->S k):FrameS S a b:=
 ⟨g.os,g.tape,g.output,g.size,fun k hk hh=>g.block k hk (fun e=>hh (hr k e.symm))⟩
theorem FrameS.mono {S T:Nat->Prop}{a b:World}(h:FrameS S a b)(hs:∀ k,S k->T k):FrameS T a b:=⟨h.os,h.tape,h.output,h.size,fun k hk hh=>h.block k hk (fun e=>hh (hs k e))⟩
theorem FrameS.frame {S:Nat->Prop}{lo hi:Nat}{a b:World}(h:FrameS S a b)(hs:∀ k,S k->lo<=k/\k<hi):Frame lo hi a b:=⟨h.os,h.tape,h.output,h.size,fun k hk hh=>h.block k hk (fun e=>by have:=hs k e;omega)⟩
theorem RecsOwn.blk {W:World}{lo hi:Nat}{v:Value}{ps:List RP}(h:RecsOwn W lo hi v ps)(k:Nat)(hk:Zgo v ps k):lo<=k/\k<hi/\k<W.heap.size:=by
 rcases hk with e | ⟨p,hp,e⟩
 ·exact ⟨(h.row.lt k e).1,h.top k e,(h.row.lt k e).2⟩
 ·exact ⟨((h.nears p hp).1.lt k e).1,(h.nears p hp).2 k e,((h.nears p hp).1.lt k e).2⟩
theorem RecsOwn.keepS {W W':World}{lo hi:Nat}{v:Value}{ps:List RP}(h:RecsOwn W lo hi v ps)(hk:∀ k,Zgo v ps k->W'.heap[k]? = W.heap[k]?):RecsOwn W' lo hi v ps where
 row:=Zam h.row (fun k e=>hk k (.inl e))
 top:=h.top
 nears:=fun p hp=>⟨Zam (h.nears p hp).1 (fun k e=>hk k (.inr ⟨p,hp,e⟩)),(h.nears p hp).2⟩
 apart:=h.apart
def totD (xs:List RecD):Nat:=(xs.map (fun x=>1+x.near.length)).sum
theorem ZdQ (ps:List RP):tot ps=totD (fsts ps):=by simp [tot,totD,fsts,List.map_map,Function.comp_def]
theorem Zcr (x:RecD)(xs:List RecD):totD (x::xs)=1+x.near.length+totD xs:=by simp [totD]
theorem tot_eq {ps qs:List RP}(h:fsts ps=fsts qs):tot ps=tot qs:=by rw [ZdQ,ZdQ,h]
def Za7 (xs:List RecD)(r:RecD):List RecD:=if ZaE xs r then putD xs r else xs
def ZlZ (xs ts:List RecD):List RecD:=if Zaw xs then ts.foldl Za7 xs else xs
theorem Zcg (ps:List RP)(r:RP):fsts (Za2 ps r)=Za7 (fsts ps) r.1:=by
 unfold Za2 Za7;cases ZaE (fsts ps) r.1
 ·rfl
 ·exact Zdk ps r
theorem Zdc (ps ts:List RP):fsts (ts.foldl Za2 ps)=(fsts ts).foldl Za7 (fsts ps):=by
 induction ts generalizing ps with
 | nil=>rfl
 | cons t ts ih=>rw [List.foldl_cons,ih,Zcg];rfl
theorem Zeg {xs:List RecD}(h:Asc xs)(f:RecD->Bool):Asc (xs.filter f):=List.Pairwise.filter f h
theorem ZcW {xs:List RecD}(h:Asc xs)(r:RecD):Asc (putD xs r):=by
 unfold putD Asc;rw [List.append_assoc,List.pairwise_append];refine⟨Zeg h _,?_,?_⟩
 ·rw [List.pairwise_append]
  refine⟨by simp,Zeg h _,?_⟩
  intro a ha b hb;have:a=r:=by simpa using ha
  subst this
  simpa using (List.mem_filter.1 hb).2
 ·intro a ha b hb
  have h1:Zan a r=true:=by simpa using (List.mem_filter.1 ha).2
  rcases List.mem_append.1 hb with h2 | h2
  ·have:b=r:=by simpa using h2
   subst this;exact h1
  ·have h3:Zan r b=true:=by simpa using (List.mem_filter.1 h2).2
   exact ZcG h1 h3
theorem ZeW {xs:List RecD}(h:Asc xs)(r:RecD):Asc (Za7 xs r):=by
 unfold Za7
 split
 ·exact ZcW h r
 ·exact h
theorem ZeD {xs:List RecD}(h:Zaw xs=true):Asc xs:=by
 unfold Zaw at h;simp only [Bool.and_eq_true] at h
 exact asc_of h.2
def Zbu (xs:List RecD):List RecD->List RecD
 | []=>[]
 | t::ts=>if ZaE xs t then t::Zbu (putD xs t) ts else Zbu xs ts
theorem Zf5 (xs ts:List RecD)(t:RecD):Zbu xs (ts++[t])=Zbu xs ts++(if ZaE (ts.foldl Za7 xs) t then [t] else []):=by
 induction ts generalizing xs with
 | nil=>
  simp only [List.nil_append,Zbu,List.foldl_nil]
  rfl
 | cons u ts ih=>
  by_cases h:ZaE xs u=true
  ·have e:Za7 xs u=putD xs u:=by unfold Za7;rw [if_pos h]
   simp only [List.cons_append,Zbu,List.foldl_cons,h,if_true,e,ih]
  ·have e:Za7 xs u=xs:=by unfold Za7;rw [if_neg h]
   simp only [List.cons_append,Zbu,List.foldl_cons,if_neg h,e,ih]
theorem Zdx {ts:List RP}{k:Nat}{p:RP}(h:ts[k]? = some p):fsts (ts.take (k+1))=fsts (ts.take k)++[p.1]:=ZeQ h
theorem Zi5 (xs:List RecD)(ts:List RecD):totD (Zbu xs ts)<=totD ts:=by
 induction ts generalizing xs with
 | nil=>simp [Zbu]
 | cons t ts ih=>
  simp only [Zbu]
  split
  ·rw [Zcr,Zcr];have:=ih (putD xs t);omega
  ·rw [Zcr];have:=ih xs;omega
def Sep (u:Value)(l:List RP)(y:Value)(ns:List RP):Prop:=∀ k,Zgo u l k->¬Zgo y ns k
theorem Zdv {α:Type}{enc:α->List Value}{sz bytes:Nat}(hlen:∀ a,(enc a).length=sz)(hpos:0<sz)(hbb:bytes<=100){P:Program}(w:World){ops:Array Oper}{rest:List Oper}{o:Oper}{a:Act}{Q:Exit->Act->World->Prop}(hgd:o.guard=none)(s x:Operand)(t:TypeId)
  (ho:o.op=.call { callee:=.builtin .append,args:=#[s,x],argTypes:=#[t,t] }) (base:Nat) (e:TypeId) (ht:P.underlying t=some (.slice e)) (zv:Value) (hzv:zv.cells.size=sz)
  (hinfo:(P.info? e).map (fun i=>(i.zero,i.size,i.bytes))=some (some zv,sz,bytes))
  (v:Value) (l:List α) (y:α) (hone:∀ u∈enc y,u.oneCell'=true) (hs:a.eval s=v) (hown:w.ownsRow base e sz v l.length (flat enc l))
  (ad:Addr) (c:Nat) (hx:a.eval x=.slice (some ad) 1 c) (hnews:∀ j u,(enc y)[j]? = some u->w.cell? (ad.add j)=some u)
  (hl:l.length+1<=1000000000) (hbase:base<=w.heap.size)
  (h:∀ v' w',w'.ownsRow base e sz v' (l++[y]).length (flat enc (l++[y]))->Zex w w' v.ownBlock v'->wpList P ops Q rest (a.put o.dst v') w'):wpList P ops Q (o::rest) a w:=by
 obtain⟨i0,hi,hz0,hz1,hz2⟩:=info_parts hinfo;have hby:(l.length+1)*bytes<=140737488355328:=by
  have:(l.length+1)*bytes<=1000000000*100:=Nat.mul_le_mul hl hbb;omega
 obtain⟨v',w',hr,h2,h3,_⟩:=run_append_own (P:=P) w base t o.type e i0 zv sz bytes ht hi hz0 hz1 hz2 hzv hpos v l.length (flat enc l) hown ad 1 c (enc y) (by rw [hlen];omega) hnews hone (by unfold maxLen;omega) hby hbase
 have h4:=ZfS (P:=P) w base t o.type e i0 zv ht hi hz0 v l.length (flat enc l) (by rw [hz1];exact hown) ad 1 c (enc y) (by rw [hlen,hz1];omega) hnews hone (by omega) (by unfold maxLen;omega) (by rw [hz2];exact hby) hr
 have e1:flat enc l++enc y=flat enc (l++[y]):=by rw [ZaL];simp [flat]
 rw [e1] at h2;exact Lib.wpList_append_run w hgd s x t t ho v _ hs hx v' w' hr (h v' w' (by simpa using h2) ⟨h3,h4⟩)
theorem Zjl (v v2:Value)(ps ts:List RP)(hi:Nat)(w:World)(hv:RecsIn w hi v ps)(ht:RecsIn w hi v2 ts)(hhi:hi<=w.heap.size)(hn:tot ps+tot ts<=1048576)(hst:Asc (fsts ps)):
  Calls Tryz.prog 29 #[v,v2] w fun e w'=>∃ x y qs ns,e=.returned (.tuple #[x,y])/\fsts qs=(fsts ts).foldl Za7 (fsts ps)/\fsts ns=Zbu (fsts ps) (fsts ts)/\RecsOwn w' w.heap.size w'.heap.size x qs/\RecsOwn w' w.heap.size w'.heap.size y ns/\Sep x qs y ns/\Below w.heap.size w w':=by
 have hnt:=Za3 ts;obtain⟨a1,c1,rfl⟩:=Zac hv.row;obtain⟨ta,tc,rfl⟩:=Zac ht.row;have HOW:=hide (Zfo (.slice a1 ps.length c1) ps hi w hv hhi (by omega))
 have HT:=hide ht;have HS:=hide hst;clear hv ht hst
 go_enter Tryz.func29,Tryz.ntmps29
 go_wp2_with fail
 refine HOW.out.mono ?_
 rintro e w1 ⟨x1,q1,rfl,f1,o1,b1⟩;obtain⟨xa,xc,rfl⟩:=Zac o1.row;have F1:=hide f1;have A1:=hide (show Asc (fsts q1) by rw [f1];exact HS.out)
 have BL1:=(Below.refl w1.heap.size w1).alloc (Nat.le_refl _) (.cells #[] 40);have O1:=hide ((o1.below BL1 (Nat.le_refl _)).wide (Nat.le_refl _) BL1.size);have L1:=hide (Zce w1 w.heap.size b1.size);have SP1:=hide (show Sep (.slice xa q1.length xc) q1 (.slice (some ⟨w1.heap.size,0,none⟩) 0 0) [] from fun k h1 h2=>by
  have h3:=(o1.blk k h1).2.2
  rcases h2 with h2 | ⟨p,hp,_⟩
  ·simp [Value.ownBlock] at h2;omega
  ·simp at hp)
 have B1:Below w.heap.size w (w1.alloc (.cells #[] 40)):=b1.alloc b1.size _;clear f1 o1 b1 BL1
 go_wp2
 go_loopw [15,6,7] (fun i o z wr=>∃ (k:Nat) (u y:Value) (l ns:List RP),k<=ts.length/\i=.int .i64 k/\o=u/\z=y/\Hid (fsts l=fsts ((ts.take k).foldl Za2 ps))/\Hid (fsts ns=Zbu (fsts ps) (fsts (ts.take k)))/\RecsOwn wr w.heap.size wr.heap.size u l/\RecsOwn wr w.heap.size wr.heap.size y ns/\Hid (Sep u l y ns)/\Hid (Asc (fsts l))/\Below w.heap.size w wr) (fun i _ _ _=>ts.length-(intOf i).toNat)
 case atStart=>exact ⟨0,_,_,q1,[],by omega,rfl,rfl,rfl,F1,hide rfl,O1.out,L1.out,SP1,A1,B1⟩
 case round=>
  obtain⟨k,u,y,l,ns,hk,rfl,rfl,rfl,HL,HNS,hown,hnew,HSP,HA,hnx⟩:=hrel;obtain⟨ua,uc,rfl⟩:=Zac hown.row;obtain⟨ya,yc,rfl⟩:=Zac hnew.row;have hsz:=hnx.size;have hlt0:tot l<=1048576:=by
   rw [ZkM HL.out];have h1:=Zg0 ps (ts.take k);have h2:=Zbq (ts.take k) (ts.drop k);rw [List.take_append_drop] at h2;omega
  have hns0:ns.length<=1048576:=by
   have h1:=Zi5 (fsts ps) (fsts (ts.take k));rw [<-HNS.out, <-ZdQ, <-ZdQ] at h1;have h2:=Zbq (ts.take k) (ts.drop k);rw [List.take_append_drop] at h2;have:=Za3 ns;omega
  by_cases hlt:k<ts.length
  ·have hkj:(k:Int)<(ts.length:Int):=by omega
   have hki:(0:Int)<=(k:Int):=by omega
   obtain⟨p,hp⟩:∃ p,ts[k]? = some p:=⟨ts[k],List.getElem?_eq_getElem hlt⟩;obtain⟨b,off,cap',hve,hbb,c0,c1,c2,c3,c4,c5,c6,c7,hnr⟩:=HT.out.at.cells k p hp;cases hve
   obtain⟨pa,pc,hpn⟩:=ZaA.shape hnr;rw [hpn] at c5;have hbw:b<w.heap.size:=by omega
   rw [<-hnx.cell (p:=⟨b,off+k*8,none⟩) hbw] at c0;rw [<-hnx.cell (p:=⟨b,off+k*8+1,none⟩) hbw] at c1;rw [<-hnx.cell (p:=⟨b,off+k*8+2,none⟩) hbw] at c2;rw [<-hnx.cell (p:=⟨b,off+k*8+3,none⟩) hbw] at c3;rw [<-hnx.cell (p:=⟨b,off+k*8+4,none⟩) hbw] at c4;rw [<-hnx.cell (p:=⟨b,off+k*8+5,none⟩) hbw] at c5;rw [<-hnx.cell (p:=⟨b,off+k*8+6,none⟩) hbw] at c6;rw [<-hnx.cell (p:=⟨b,off+k*8+7,none⟩) hbw] at c7;have hno:=((HT.out.nears p (List.mem_of_getElem? hp)).keep (W':=wr) (fun j _ h2 _=>hnx.block j (by omega))).wide (Nat.le_refl _) (show hi<=wr.heap.size by omega)
   have hpl:p.1.near.length<=1048576:=by have:=Zc6 (List.mem_of_getElem? hp);omega
   have BY:Below wr.heap.size wr (wr.alloc (.cells #[.int .i64 p.1.area,.int .i64 p.1.kind,.int .i64 p.1.owner,.int .i64 p.1.key,.int .i64 p.1.seq,.slice pa p.1.near.length pc,.int .i64 p.1.cost,.bool p.1.far] 40)):=(Below.refl _ _).alloc (Nat.le_refl _) _;have hy:=heap_alloc_new wr (.cells #[.int .i64 p.1.area,.int .i64 p.1.kind,.int .i64 p.1.owner,.int .i64 p.1.key,.int .i64 p.1.seq,.slice pa p.1.near.length pc,.int .i64 p.1.cost,.bool p.1.far] 40);obtain⟨wy,hwy⟩:∃ W,W=wr.alloc (.cells #[.int .i64 p.1.area,.int .i64 p.1.kind,.int .i64 p.1.owner,.int .i64 p.1.key,.int .i64 p.1.seq,.slice pa p.1.near.length pc,.int .i64 p.1.cost,.bool p.1.far] 40):=⟨_,rfl⟩;rw [<-hwy] at BY hy;have hys:=Zab hy;have HTK:=hide (ZkE (.slice ua l.length uc) l wr.heap.size p wy (hown.in.below BY (Nat.le_refl _)) BY.size hlt0 (hno.keep (fun j _ h2 _=>BY.block j h2)) hpl)
   have HOR:=hide (fun W (hb:Below w.heap.size w W)=>Zf6 p.1 p.2 0 W ((HT.out.nears p (List.mem_of_getElem? hp)).keep (W':=W) (fun j _ h2 _=>hb.block j (by omega))).1 hpl)
   have HPT:=hide (fun (v':Value) W (h1:RecsOwn W w.heap.size W.heap.size (.slice ua l.length uc) l) h2 h3 h4=>Zka (.slice ua l.length uc) l w.heap.size (p.1,v') W h1 h2 hlt0 HA.out h3 h4)
   have HFT:=hide (Ze7 ps hp);have HNT:=hide (show Zbu (fsts ps) (fsts (ts.take (k+1)))=Zbu (fsts ps) (fsts (ts.take k))++(if ZaE (fsts l) p.1 then [p.1] else []) by rw [Zdx hp,Zf5, <-Zdc, <-HL.out])
   unfold recC at *;rw [hpn] at HTK HOR;have OWN:=hide hown;have NEW:=hide hnew;obtain⟨T,hT⟩:∃ T,T=ZaE (fsts l) p.1:=⟨_,rfl⟩;rw [<-hT] at HTK HNT;have HTT:=hide hT;clear hT hnr hno hpn hp hown hnew
   go_wp2_with fail
   rw [<-hwy];clear hwy;refine HTK.out.mono ?_
   rintro e w3 ⟨rfl,b3⟩;have b3s:=b3.size;have bys:=BY.size;have B3:Below wr.heap.size wr w3:=BY.trans (b3.mono BY.size);have hy3:=(b3.block _ hys).trans hy;have d0:=Zaa hy3 0;have d1:=Zaa hy3 1;have d2:=Zaa hy3 2;have d3:=Zaa hy3 3;have d4:=Zaa hy3 4;have d5:=Zaa hy3 5;have d6:=Zaa hy3 6;have d7:=Zaa hy3 7;simp at d0 d1 d2 d3 d4 d5 d6 d7
   clear hy b3 HTK c0 c1 c2 c3 c4 c5 c6 c7;cases T
   ·have HN:=hide (show fsts l=fsts ((ts.take (k+1)).foldl Za2 ps) by rw [HFT.out,Zcg, <-HL.out];unfold Za7;rw [<-HTT.out];rfl)
    have HN2:=hide (show fsts ns=Zbu (fsts ps) (fsts (ts.take (k+1))) by rw [HNT.out,HNS.out];simp)
    have OW3:=hide ((OWN.out.below B3 (Nat.le_refl _)).wide (Nat.le_refl _) (show wr.heap.size<=w3.heap.size by omega))
    have NW3:=hide ((NEW.out.below B3 (Nat.le_refl _)).wide (Nat.le_refl _) (show wr.heap.size<=w3.heap.size by omega))
    go_wp2
    go_roundw
    case rel=>exact ⟨k+1,_,_,l,ns,by omega,by go_num,rfl,rfl,HN,HN2,OW3.out,NW3.out,HSP,HA,hnx.trans (B3.mono hsz)⟩
    case measure=>simp [intOf];omega
   ·have HN:=hide (show ∀ l':List RP,fsts l'=putD (fsts l) p.1->fsts l'=fsts ((ts.take (k+1)).foldl Za2 ps)/\Asc (fsts l') from fun l' h=>by
     rw [HFT.out,Zcg, <-HL.out,h];refine⟨?_,ZcW HA.out _⟩
     unfold Za7;rw [<-HTT.out]
     rfl)
    go_wp2_with fail
    refine (HOR.out _ (hnx.trans (B3.mono hsz))).mono ?_
    rintro e w4 ⟨n1,rfl,o4,b4⟩;have b4s:=b4.size;have B4:Below wr.heap.size wr w4:=B3.trans (b4.mono (by omega))
    have hy4:=(b4.block _ (Zab hy3)).trans hy3;have hr4:Zat w4 w.heap.size w4.heap.size (p.1,n1):=⟨Zal o4 (by omega),fun k hk=>(o4.lt k hk).2⟩
    have hap:∀ q∈l,Zef q (p.1,n1):=fun q hq k h1 h2=>by
     have h3:=(OWN.out.nears q hq).2 k h1;have h4:=(o4.lt k h2).1;omega
    have hn1:∀ k,n1.ownBlock=some k->wr.heap.size<=k/\k<w4.heap.size:=fun k hk=>⟨by have:=(o4.lt k hk).1;omega,(o4.lt k hk).2⟩
    have HP4:=HPT.out n1 w4 ((OWN.out.below B4 (Nat.le_refl _)).wide (Nat.le_refl _) (by omega)) (by omega) hr4 hap
    have NW4:=hide (NEW.out.below B4 (Nat.le_refl _));obtain⟨na,nc,rfl⟩:=Zac o4;have HP5:=hide HP4;have HN1:=hide hn1;clear HP4 hap hr4 o4 HPT hn1 d0 d1 d2 d3 d4 d5 d6 d7 hy3
    go_wp2_with fail
    refine HP5.out.mono ?_
    rintro e w5 ⟨x5,q5,rfl,f5,o5,b5,pf5⟩;obtain⟨x5a,x5c,rfl⟩:=Zac o5.row;have N5:=HN.out q5 f5;have NF:=hide N5.1;have NA:=hide N5.2;have O5:=hide o5;have b5s:=b5.size;have B5:Below w.heap.size w w5:=(hnx.trans (B4.mono hsz)).trans b5;have hv5:∀ k,(Value.slice ua l.length uc).ownBlock=some k->k<wr.heap.size:=fun k hk=>(OWN.out.blk k (.inl hk)).2.2
    have hy5:=(pf5.keep _ (Zab hy4) (fun e=>by have:=hv5 _ e;omega)).trans hy4
    have NW5:=hide (NW4.out.keepS (W':=w5) (fun k hk=>pf5.keep k (by have:=(NEW.out.blk k hk).2.2;omega) (fun e=>HSP.out k (.inl e) hk)))
    have BK5:=hide (show ∀ k,Zgo (.slice x5a q5.length x5c) q5 k->k<w5.heap.size/\(Zgo (.slice ua l.length uc) l k\/wr.heap.size<=k) from fun k hk=>by
     refine⟨(o5.blk k hk).2.2,?_⟩
     rcases hk with hk | ⟨q,hq,hk⟩
     ·rcases pf5.row k hk with h | h
      ·exact .inl (.inl h)
      ·exact .inr (by omega)
     ·rcases pf5.near q hq with h | h
      ·exact .inl (.inr ⟨q,h,hk⟩)
      ·exact .inr (HN1.out k (by rw [h] at hk;exact hk)).1)
    have d0:=Zaa hy5 0;have d1:=Zaa hy5 1;have d2:=Zaa hy5 2;have d3:=Zaa hy5 3;have d4:=Zaa hy5 4;have d5:=Zaa hy5 5;have d6:=Zaa hy5 6;have d7:=Zaa hy5 7;simp at d0 d1 d2 d3 d4 d5 d6 d7
    have HO5:=hide (HOR.out _ B5);clear N5 f5 o5 b5 HN HP5 pf5 hv5
    go_wp2_with fail
    refine HO5.out.mono ?_
    rintro e w6 ⟨n2,rfl,o6,b6⟩;have b6s:=b6.size;obtain⟨ma,mc,rfl⟩:=Zac o6;have NW5w:=hide (NW5.out.wide (Nat.le_refl _) (show wr.heap.size<=w5.heap.size by omega))
    have ROW6:=hide (Zah NW5w.out.row b6 (Nat.le_refl _));clear d0 d1 d2 d3 d4 d5 d6 d7 hy5 hy4 HO5
    go_wp2_with (first
     | (at_builtin;refine Zdv ZaK (by omega) (by omega) _ rfl _ _ 29 rfl w.heap.size 40 Tryz.underlying29 (.agg (recC Zbe (.slice none 0 0))) rfl Tryz.infoRec _ ns (p.1,.slice ma p.1.near.length mc) (Zbm _ _ _ _) rfl (ROW6.out.alloc _) ⟨w6.heap.size,0,none⟩ 1 rfl (Zar (cs:=encP (p.1,.slice ma p.1.near.length mc))) (by omega) (by simp;omega) ?_))
    intro v7 w7 row7 gv7;have b7s:=gv7.1.size;simp at b7s
    have NW7:=hide (NW5w.out.push (p:=(p.1,.slice ma p.1.near.length mc)) (b6.alloc b6.size _) (by omega) (Zat.wide (Zat.keep ⟨o6,fun k hk=>(o6.lt k hk).2⟩ (fun j _ _ h3=>Below.heap_alloc _ _ _ h3)) (Nat.le_refl _) (by simp)) row7 gv7.1)
    have hyb:∀ k,(Value.slice ya ns.length yc).ownBlock=some k->Zgo (.slice ya ns.length yc) ns k/\k<wr.heap.size:=fun k hk=>⟨.inl hk,(NEW.out.blk k (.inl hk)).2.2⟩
    have OW7:=hide ((((O5.out.below b6 (Nat.le_refl _)).below ((Below.refl w6.heap.size w6).alloc (Nat.le_refl _) (.cells (encP (p.1,.slice ma p.1.near.length mc)).toArray 40)) (by omega)).keepS (W':=w7) (fun k hk=>by
     have hb:=BK5.out k hk;refine gv7.1.block k (by simp;omega) (fun e=>?_)
     have hz:=hyb k e.symm
     rcases hb.2 with h | h
     ·exact HSP.out k h hz.1
     ·omega)).wide (Nat.le_refl _) (show w5.heap.size<=w7.heap.size by omega))
    have SP7:=hide (show Sep (.slice x5a q5.length x5c) q5 v7 (ns++[(p.1,.slice ma p.1.near.length mc)]) from fun k h1 h2=>by
     have hb:=BK5.out k h1;have h3:Zgo (.slice ya ns.length yc) ns k\/w5.heap.size<=k:=by
      rcases h2 with h2 | ⟨q,hq,h2⟩
      ·rcases gv7.2 k h2 with h | h
       ·exact .inl (.inl h)
       ·exact .inr (by simp at h;omega)
      ·rcases List.mem_append.1 hq with h | h
       ·exact .inl (.inr ⟨q,h,h2⟩)
       ·rw [List.mem_singleton.1 h] at h2
        exact .inr (o6.lt k h2).1
     rcases h3 with h3 | h3
     ·have h4:=(NEW.out.blk k h3).2.2
      rcases hb.2 with h | h
      ·exact HSP.out k h h3
      ·omega
     ·omega)
    have B7:Below w.heap.size w w7:=((B5.trans (b6.mono B5.size)).alloc (by have:=B5.size;omega) _).grown gv7.1 (by simp;omega) (fun k hk=>(NEW.out.row.lt k hk).1)
    have HN2:=hide (show fsts (ns++[(p.1,Value.slice ma p.1.near.length mc)])=Zbu (fsts ps) (fsts (ts.take (k+1))) by rw [HNT.out, <-HNS.out];simp [fsts])
    obtain⟨v7a,v7c,rfl⟩:=Zac row7;clear row7 gv7 o6 b6 hyb
    go_wp2
    go_roundw
    case rel=>exact ⟨k+1,_,_,q5,_,by omega,by go_num,rfl,rfl,NF,HN2,OW7.out,NW7.out,SP7,NA,B7⟩
    case measure=>simp [intOf];omega
  ·have hkn:¬(k:Int)<(ts.length:Int):=by omega
   have KN:=hide (show k=ts.length by omega)
   have HF:=hide (show fsts l=(fsts ts).foldl Za7 (fsts ps) by
    rw [HL.out,KN.out,List.take_length,Zdc])
   have HF2:=hide (show fsts ns=Zbu (fsts ps) (fsts ts) by
    rw [HNS.out,KN.out,List.take_length])
   have OWN:=hide hown;have NEW:=hide hnew;clear hown hnew
   go_wp2
   go_returns
   first
    | exact ⟨_,_,l,ns,rfl,HF.out,HF2.out,OWN.out,NEW.out,HSP.out,hnx⟩
    | exact ⟨_,_,rfl,l,HF.out,ns,HF2.out,OWN.out,NEW.out,HSP.out,hnx⟩


theorem Zgu {α:Type}{f:α->Bool}{xs:List α}(h:Zbl f xs=true)(i:Nat)(hi:i<xs.length):f xs[i]=true:=by
 have h1:=List.all_eq_true.1 h i (List.mem_range.2 hi);unfold okAt at h1;rw [List.getElem?_eq_getElem hi] at h1;exact h1
theorem Zlm {o:Int}{ns:List Nr}(h:Za1 o ns=true):ns.length<=6:=by
 unfold Za1 at h;simp only [Bool.and_eq_true] at h
 have hb:∀ i (hi:i<ns.length),(i:Int)+1<=ns[i].to:=by
  intro i
  induction i with
  | zero=>
   intro hi;have h1:=Zgu h.1 0 hi;unfold ZbC inB at h1;simp only [Bool.and_eq_true,decide_eq_true_eq] at h1
   omega
  | succ i ih=>
   intro hi;have h1:=ih (by omega)
   have h2:=List.all_eq_true.1 h.2 (i+1) (List.mem_range.2 hi);rw [Za6 (List.getElem?_eq_getElem (by omega)) (List.getElem?_eq_getElem hi)] at h2
   unfold ordN at h2;simp only [decide_eq_true_eq] at h2
   omega
 cases Nat.lt_or_ge 6 ns.length with
 | inr h0=>exact h0
 | inl h0=>
  have h1:=hb 6 h0;have h2:=Zgu h.1 6 h0;unfold ZbC inB at h2;simp only [Bool.and_eq_true,decide_eq_true_eq] at h2
  omega
theorem Zjw {x:RecD}(h:Zas x=true):x.near.length<=6:=by
 unfold Zas at h;simp only [Bool.and_eq_true] at h
 have h2:=h.2
 split at h2
 ·simp only [Bool.and_eq_true] at h2
  exact Zlm h2.1.1.2
 ·split at h2
  ·simp only [Bool.and_eq_true,beq_iff_eq] at h2
   omega
  ·split at h2
   ·simp only [Bool.and_eq_true,beq_iff_eq] at h2
    omega
   ·cases h2
theorem ZkK {xs:List RecD}(h:∀ x∈xs,Zas x=true):totD xs<=xs.length*7:=by
 induction xs with
 | nil=>simp [totD]
 | cons x xs ih=>
  rw [Zcr,List.length_cons];have h1:=ih (fun y hy=>h y (List.mem_cons_of_mem _ hy))
  have h2:=Zjw (h x (List.mem_cons_self ..));omega
theorem Zdp {xs:List RecD}(h:Zaw xs=true):xs.length<=150/\(∀ x∈xs,Zas x=true)/\Asc xs:=by
 have h1:=ZeD h;unfold Zaw at h;simp only [Bool.and_eq_true,decide_eq_true_eq] at h
 refine⟨h.1.1,?_,h1⟩
 intro x hx;obtain⟨i,hi,e⟩:=List.getElem_of_mem hx;rw [<-e];exact Zgu h.1.2 i hi
theorem ZcO {xs:List RecD}(h:Zaw xs=true):totD xs<=1050:=by
 have h1:=Zdp h;have h2:=ZkK h1.2.1;omega
theorem ZgZ {xs:List RecD}{r:RecD}(h:ZaE xs r=true):Zas r=true:=by
 unfold ZaE at h;simp only [Bool.and_eq_true] at h
 exact h.1
theorem ZlF (x:RecD)(v1 v2:Value)(w:World)(h1:ZaA w v1 x.near w.heap.size)(h2:ZaA w v2 x.near w.heap.size)(hl:x.near.length<=1048576):
  Calls Tryz.prog 35 #[.agg (recC x v1),.agg (recC x v2)] w fun e w'=>e=.returned (.bool true)/\Below w.heap.size w w':=by
 obtain⟨a1,c1,rfl⟩:=h1.shape;obtain⟨a2,c2,rfl⟩:=h2.shape;have H1:=hide h1;have H2:=hide h2;clear h1 h2;have BX:Below w.heap.size w ((w.alloc (.cells (recC x (.slice a1 x.near.length c1)) 40)).alloc (.cells (recC x (.slice a2 x.near.length c2)) 40)):=ZaW _ _;have hq0:((w.alloc (.cells (recC x (.slice a1 x.near.length c1)) 40)).alloc (.cells (recC x (.slice a2 x.near.length c2)) 40)).heap[w.heap.size]? = some (.cells (recC x (.slice a1 x.near.length c1)) 40):=by rw [Below.heap_alloc _ _ _ (by simp),heap_alloc_new]
 have hq1:((w.alloc (.cells (recC x (.slice a1 x.near.length c1)) 40)).alloc (.cells (recC x (.slice a2 x.near.length c2)) 40)).heap[w.heap.size+1]? = some (.cells (recC x (.slice a2 x.near.length c2)) 40):=by
  have e:=heap_alloc_new (w.alloc (.cells (recC x (.slice a1 x.near.length c1)) 40)) (.cells (recC x (.slice a2 x.near.length c2)) 40)
  simpa using e
 obtain⟨wx,hwx⟩:∃ wx,wx=(w.alloc (.cells (recC x (.slice a1 x.near.length c1)) 40)).alloc (.cells (recC x (.slice a2 x.near.length c2)) 40):=⟨_,rfl⟩;rw [<-hwx] at BX hq0 hq1;have hsx:=Zab hq1;unfold recC at *;have HQ0:=hide hq0;have HQ1:=hide hq1;clear hq0 hq1
 go_enter Tryz.func35,Tryz.ntmps35
 go_wp2
 rw [<-hwx];clear hwx
 go_loopw [5] (fun i wr=>∃ k:Nat,k<=x.near.length/\i=.int .i64 k/\Below wx.heap.size wx wr) (fun i _=>x.near.length-(intOf i).toNat)
 case atStart=>exact ⟨0,by omega,rfl,Below.refl _ _⟩
 case round=>
  obtain⟨k,hk,rfl,hb⟩:=hrel;have hbs:=hb.size;have hr0:=(hb.block _ (Zab HQ0.out)).trans HQ0.out;have hr1:=(hb.block _ (Zab HQ1.out)).trans HQ1.out;have s5:=Zaa hr0 5;have t5:=Zaa hr1 5;simp at s5 t5
  have BWR:Below w.heap.size w wr:=BX.trans (hb.mono (by omega))
  by_cases hlt:k<x.near.length
  ·obtain ⟨n,hn⟩:∃ n,x.near[k]? = some n:=⟨x.near[k],List.getElem?_eq_getElem hlt⟩
   obtain⟨d1,o1,e1,hv1,hd1,f0,f1⟩:=H1.out.cells k n hn;obtain⟨d2,o2,e2,hv2,hd2,g0,g1⟩:=H2.out.cells k n hn;cases hv1
   cases hv2
   rw [<-BWR.cell (p:=⟨d1,o1+k*2,none⟩) hd1] at f0;rw [<-BWR.cell (p:=⟨d1,o1+k*2+1,none⟩) hd1] at f1;rw [<-BWR.cell (p:=⟨d2,o2+k*2,none⟩) hd2] at g0;rw [<-BWR.cell (p:=⟨d2,o2+k*2+1,none⟩) hd2] at g1;have hki:(0:Int)<=(k:Int):=by omega
   have hkj:(k:Int)<(x.near.length:Int):=by omega
   have e0:=fun W=>Zlk W n.to n.c n.to n.c
   rw [decide_eq_true rfl] at e0;clear hn hr0 hr1
   go_wp2
   go_quiet (fail)
   go_wp2
   go_roundw
   case rel=>exact ⟨k+1,by omega,by go_num,hb.trans ⟨rfl,rfl,rfl,Nat.le_refl _,fun _ _=>rfl⟩⟩
   case measure=>simp [intOf];omega
  ·have hkn:k=x.near.length:=by omega
   have KN:=hide hkn;clear hkn hr0 hr1
   go_wp2
   go_ret
   exact⟨rfl,BWR⟩
end Go.Proofs.YtcimbiinljcifaaGreat
