/-
  RowsL RowsM IntRow IntK WayK MarkG WaysK WaysL WaysM IntsK
-/
import Derived.Test.YtnndlmodjkplnaaGreatDoorFw2
import Derived.Test.YtnndlmodjkplnaaGreatDoorFw1
import Derived.Deep.QuietTactic
import Derived.BigQuiet
import Derived.WalkSmall
import Derived.Handy
namespace Go.Proofs.YtnndlmodjkplnaaGreatDoor
open Go.RowKit
set_option linter.unusedSimpArgs false
set_option linter.unusedVariables false
set_option maxRecDepth 100000
set_option maxHeartbeats 8000000
theorem ZpT {q:Int}{n:Nat}:szR q n<0\/(0<=szR q n/\szR q n=q-(n:Int)):=by
 unfold szR
 split <;> omega
theorem Zia (v:Value)(ps:List RP)(q:Int)(w:World)(hn:ps.length<=maxLen)(hns:∀ p∈ps,p.1.near.length<=maxLen)(hq0:0<=q)(hq:q<=1048576)(hv:Zbo w v ps w.heap.size):
  Calls Tryz.prog 42 #[v,.int .i64 q] w fun e w'=>∃ r:Int,e=.returned (.int .i64 r)/\(r<0\/(0<=r/\r=q-(tot ps:Int)))/\Below w.heap.size w w':=by
 obtain⟨a,cap,rfl⟩:=hv.shape;have hm:maxLen=9223372036854775807:=rfl;have HV:=hide hv;clear hv;have HNS:=hide (fun p hp=>show ((p:RP).1.near.length:Int)<=9223372036854775807 by have:=hns p hp;omega)
 clear hns;rw [hm] at hn;clear hm;by_cases hneg:q-(ps.length:Int)<0
 ·go_enter Tryz.func42,Tryz.ntmps42
  go_wp2
  go_ret
  exact⟨_,rfl,.inl (by omega),Below.refl _ _⟩
 go_enter Tryz.func42,Tryz.ntmps42
 go_wp2
 go_loopw [5,1] (fun i r wr=>∃ (k:Nat) (c:Int),k<=ps.length/\i=.int .i64 k/\r=.int .i64 c/\0<=c/\c=q-(ps.length:Int)-((tot (ps.take k):Int)-(k:Int))/\Below w.heap.size w wr) (fun i _ _=>ps.length-(intOf i).toNat)
 case atStart=>exact ⟨0,q-(ps.length:Int),by omega,rfl,rfl,by omega,by simp [tot],Below.refl _ _⟩
 case round=>
  obtain⟨k,c,hk,rfl,rfl,hc0,hc,hnx⟩:=hrel;by_cases hlt:k<ps.length
  ·obtain ⟨p,hp⟩:∃ p,ps[k]? = some p:=⟨ps[k],List.getElem?_eq_getElem hlt⟩
   have htk:=Zpl hp;have htl:=Zca (ps.take k);rw [List.length_take,Nat.min_eq_left (by omega)] at htl
   obtain⟨b,off,cap',hve,hbb,c0,c1,c2,c3,c4,c5,c6,c7,hnr⟩:=HV.out.cells k p hp;cases hve
   rw [<-hnx.cell (p:=⟨b,off+k*8,none⟩) hbb] at c0;rw [<-hnx.cell (p:=⟨b,off+k*8+1,none⟩) hbb] at c1;rw [<-hnx.cell (p:=⟨b,off+k*8+2,none⟩) hbb] at c2;rw [<-hnx.cell (p:=⟨b,off+k*8+3,none⟩) hbb] at c3;rw [<-hnx.cell (p:=⟨b,off+k*8+4,none⟩) hbb] at c4;rw [<-hnx.cell (p:=⟨b,off+k*8+5,none⟩) hbb] at c5;rw [<-hnx.cell (p:=⟨b,off+k*8+6,none⟩) hbb] at c6;rw [<-hnx.cell (p:=⟨b,off+k*8+7,none⟩) hbb] at c7;obtain⟨na,nc,hne⟩:=hnr.shape;rw [hne] at c5;have hki:(0:Int)<=(k:Int):=by omega
   have hkj:(k:Int)<(ps.length:Int):=by omega
   have hcq:c<=1048576:=by omega
   have HS:=hide (fun W=>Zjr p.1 na p.1.near.length nc c W (HNS.out p (List.mem_of_getElem? hp)) hc0 hcq)
   unfold recC at HS;have hsn:=ZpT (q:=c) (n:=p.1.near.length);obtain⟨z,hz⟩:∃ z,z=szR c p.1.near.length:=⟨_,rfl⟩;rw [<-hz] at HS hsn;have HT:=hide htk;have HTL:=hide htl;have HC:=hide hc;clear hp hz htk htl hnr hne hc
   rcases hsn with hzn | ⟨hz0,hze⟩
   ·go_wp2_with fail
    refine (HS.out _).mono ?_
    rintro e w1 ⟨rfl,b1⟩
    go_wp2
    go_ret
    exact⟨_,rfl,.inl (by omega),hnx.trans (b1.mono hnx.size)⟩
   ·have HZ:=hide hze
    clear hze
    go_wp2_with fail
    refine (HS.out _).mono ?_
    rintro e w1 ⟨rfl,b1⟩
    go_wp2
    go_roundw
    case rel=>exact ⟨k+1,z,by omega,by go_num,rfl,hz0,by have:=HZ.out;have:=HC.out;have:=HT.out;omega,hnx.trans (b1.mono hnx.size)⟩
    case measure=>simp [intOf];omega
  ·have hkn:k=ps.length:=by omega
   have KN:=hide hkn;have HC:=hide hc;clear hkn hc
   go_wp2
   go_ret
   refine⟨c,rfl,.inr ⟨hc0,?_⟩,hnx⟩
   have h1:=HC.out;rw [KN.out,List.take_length] at h1;omega
theorem Tryz.infoRec:(Tryz.prog.info? 128).map (fun i=>(i.zero,i.size,i.bytes))=some (some (.agg (recC Zc2 (.slice none 0 0))),8,80):=by kernel_rfl
theorem Zib (v:Value)(ps:List RP)(w:World)(hn:ps.length<=1048576)(hns:∀ p∈ps,p.1.near.length<=1048576)(hv:Zbo w v ps w.heap.size):
  Calls Tryz.prog 48 #[v] w fun e w'=>∃ x qs,e=.returned x/\qs.map (·.1)=ps.map (·.1)/\RecsOwn w' w.heap.size w'.heap.size x qs/\Below w.heap.size w w':=by
 obtain⟨a,cap,rfl⟩:=hv.shape;have HV:=hide hv;have HNS:=hide hns;clear hv hns;obtain⟨i0,hi,hz0,hz1,hz2⟩:=info_parts Tryz.infoRec;have HI:=hide hi;have HZ:=hide hz0;clear hi hz0
 go_enter Tryz.func48,Tryz.ntmps48
 go_wp2_with (first
  | (refine Za8 Zdq (by omega) _ rfl _ _ 39 rfl w.heap.size 128 i0 (.agg (recC Zc2 (.slice none 0 0))) zP rfl Tryz.underlying39 HI.out HZ.out hz1 ps.length rfl rfl (by rw [hz2];omega) (by unfold maxLen;omega) (Nat.le_refl _) ?_))
 intro w1 hown hg;have b1:Below w.heap.size w w1:=(Below.refl _ _).grown hg (Nat.le_refl _) (fun k hk=>by simp at hk)
 have hg1:w.heap.size<w1.heap.size:=by
  rcases hown.2 with ⟨h0,_⟩ | ⟨g,cp,cur,hv,_,hh,_⟩
  ·cases h0
  ·cases hv;exact Zab hh
 have OW:=hide hown;clear hown hg
 go_wp2
 go_loopw [4] (fun i wr=>∃ (k:Nat) (qs:List RP),k<=ps.length/\i=.int .i64 k/\qs.map (·.1)=(ps.take k).map (·.1)/\wr.ownsRow w.heap.size 128 8 (.slice (some ⟨w.heap.size,0,none⟩) ps.length ps.length) ps.length (flat encP (qs++List.replicate (ps.length-k) zP))/\(∀ p∈qs,ZbE wr (w.heap.size+1) wr.heap.size p)/\qs.Pairwise ZjB/\Below w.heap.size w wr) (fun i _=>ps.length-(intOf i).toNat)
 case atStart=>exact ⟨0,[],by omega,rfl,by simp,(by simpa using OW.out),by simp,by simp,b1⟩
 case round=>
  obtain⟨k,qs,hk,rfl,hmap,hown,hnear,hap,hnx⟩:=hrel;have hql:qs.length=k:=by have:=congrArg List.length hmap;simpa [List.length_take,Nat.min_eq_left hk] using this
  by_cases hlt:k<ps.length
  ·obtain ⟨p,hp⟩:∃ p,ps[k]? = some p:=⟨ps[k],List.getElem?_eq_getElem hlt⟩
   obtain⟨b,off,cap',hve,hbb,c0,c1,c2,c3,c4,c5,c6,c7,hnr⟩:=HV.out.cells k p hp;cases hve
   rw [<-hnx.cell (p:=⟨b,off+k*8,none⟩) hbb] at c0;rw [<-hnx.cell (p:=⟨b,off+k*8+1,none⟩) hbb] at c1;rw [<-hnx.cell (p:=⟨b,off+k*8+2,none⟩) hbb] at c2;rw [<-hnx.cell (p:=⟨b,off+k*8+3,none⟩) hbb] at c3;rw [<-hnx.cell (p:=⟨b,off+k*8+4,none⟩) hbb] at c4;rw [<-hnx.cell (p:=⟨b,off+k*8+5,none⟩) hbb] at c5;rw [<-hnx.cell (p:=⟨b,off+k*8+6,none⟩) hbb] at c6;rw [<-hnx.cell (p:=⟨b,off+k*8+7,none⟩) hbb] at c7;have hnr2:=(ZaL.later hnr hnx (Nat.le_refl _)).more hnx.size;have HTO:=hide (Zjw (.agg (recC p.1 p.2)) p.1 wr (HNS.out p (List.mem_of_getElem? hp)) ⟨_,rfl,hnr2⟩);unfold recC at HTO;have HP:=hide hp;have OW2:=hide hown;have HM:=hide hmap;have HN:=hide hnear;have HQ:=hide hql;have HA:=hide hap;clear hp hown hmap hnear hql hap hnr hnr2;have hki:(0:Int)<=(k:Int):=by omega
   have hkj:(k:Int)<(ps.length:Int):=by omega
   go_wp2_with fail
   refine HTO.out.mono ?_
   rintro e w2 ⟨v1,rfl,hn2,b2⟩;obtain⟨n1a,n1c,rfl⟩:=Zac hn2;have hown2:=Zaf OW2.out b2 (Nat.le_refl _);have hln:(qs++List.replicate (ps.length-k) zP).length=ps.length:=by rw [List.length_append,HQ.out];simp;omega
   have hex:∀ r,r<8->∃ u,w2.cell? ⟨w.heap.size,k*8+r,none⟩=some u:=fun r hr=>ZaX hown2 _ (by omega)
   obtain⟨u0,d0⟩:=hex 0 (by omega)
   obtain⟨u1,d1⟩:=hex 1 (by omega)
   obtain⟨u2,d2⟩:=hex 2 (by omega)
   obtain⟨u3,d3⟩:=hex 3 (by omega)
   obtain⟨u4,d4⟩:=hex 4 (by omega)
   obtain⟨u5,d5⟩:=hex 5 (by omega)
   obtain⟨u6,d6⟩:=hex 6 (by omega)
   obtain⟨u7,d7⟩:=hex 7 (by omega)
   rw [Nat.add_zero] at d0;have f0:=hown2.frozenAt (k*8);have f1:=hown2.frozenAt (k*8+1);have f2:=hown2.frozenAt (k*8+2);have f3:=hown2.frozenAt (k*8+3);have f4:=hown2.frozenAt (k*8+4);have f5:=hown2.frozenAt (k*8+5);have f6:=hown2.frozenAt (k*8+6);have f7:=hown2.frozenAt (k*8+7);have hst:=ZnO (j:=k) (p:=(p.1,.slice n1a p.1.near.length n1c)) hown2 (by omega)
   have hsz:=hnx.size;have hgr:=Zl7 w2 w.heap.size (k*8) (p.1,.slice n1a p.1.near.length n1c);have hkeep:∀ j,w.heap.size+1<=j->j<w2.heap.size->(putP w2 w.heap.size (k*8) (p.1,.slice n1a p.1.near.length n1c)).heap[j]? = w2.heap[j]? := fun j h1 h2=>hgr.block j h2 (by simp;omega)
   have hgs:=hgr.size;have hrz:w.heap.size<wr.heap.size:=by
    obtain⟨u,hu⟩:=ZaX OW2.out (k*8) (by omega)
    exact World.block_lt_of_cell? wr _ hu
   have b2s:=b2.size;have hnew:ZbE (putP w2 w.heap.size (k*8) (p.1,.slice n1a p.1.near.length n1c)) (w.heap.size+1) (putP w2 w.heap.size (k*8) (p.1,.slice n1a p.1.near.length n1c)).heap.size (p.1,.slice n1a p.1.near.length n1c):=by
    have h0:ZbE w2 (w.heap.size+1) w2.heap.size (p.1,.slice n1a p.1.near.length n1c):=⟨Zah hn2 hrz,fun k hk=>(hn2.lt k hk).2⟩
    exact (h0.keep (fun j h1 _ h3=>hkeep j h1 h3)).wide (Nat.le_refl _) hgs
   have hold:∀ q∈qs,ZbE (putP w2 w.heap.size (k*8) (p.1,.slice n1a p.1.near.length n1c)) (w.heap.size+1) (putP w2 w.heap.size (k*8) (p.1,.slice n1a p.1.near.length n1c)).heap.size q:=fun q hq=>by
    have h0:=(HN.out q hq).keep (W':=w2) (fun j _ h2 _=>b2.block j h2)
    exact ((h0.wide (Nat.le_refl _) b2s).keep (fun j h1 _ h3=>hkeep j h1 h3)).wide (Nat.le_refl _) hgs
   have hap2:=Zip (p:=(p.1,.slice n1a p.1.near.length n1c)) HA.out HN.out (fun j hj=>(hn2.lt j hj).1)
   have hbw:Below w.heap.size w (putP w2 w.heap.size (k*8) (p.1,.slice n1a p.1.near.length n1c)):=(hnx.trans (b2.mono hsz)).grown hgr (by omega) (fun j hj=>by simp at hj;omega)
   have ST:=hide hst;have HNEW:=hide hnew;have HOLD:=hide hold;have HAP2:=hide hap2;have HBW:=hide hbw;clear hown2 hex hst hnew hold hap2 hbw hkeep hgr hgs hn2
   go_wp2
   refine⟨⟨k+1,qs++[(p.1,.slice n1a p.1.near.length n1c)],by omega,by go_num,?_,?_,?_,HAP2.out,HBW.out⟩,by simp [intOf];omega⟩
   ·rw [map_take HP.out, <-HM.out]
    simp
   ·have h4:=ST.out
    have e4:(qs++List.replicate (ps.length-k) zP).set k (p.1,.slice n1a p.1.near.length n1c)=(qs++[(p.1,.slice n1a p.1.near.length n1c)])++List.replicate (ps.length-(k+1)) zP:=by
     rw [List.set_append_right _ _ (by rw [HQ.out];exact Nat.le_refl _),HQ.out,Nat.sub_self]
     have e2:ps.length-k=(ps.length-(k+1))+1:=by omega
     rw [e2,List.replicate_succ,List.set_cons_zero];simp
    rw [e4] at h4;exact h4
   ·intro q hq
    rcases List.mem_append.1 hq with h | h
    ·exact HOLD.out q h
    ·have:q=(p.1,.slice n1a p.1.near.length n1c):=by simpa using h
     rw [this];exact HNEW.out
  ·have hkn:k=ps.length:=by omega
   have KN:=hide hkn;have OW2:=hide hown;have HM:=hide hmap;have HN:=hide hnear;have HA:=hide hap;have HQ:=hide hql;clear hkn hown hmap hnear hap hql
   go_wp2
   go_ret
   have h1:=HM.out;have h2:=OW2.out;have h3:=HQ.out;rw [KN.out,List.take_length] at h1;rw [KN.out,Nat.sub_self,List.replicate_zero,List.append_nil] at h2;rw [KN.out] at h3;refine⟨_,rfl,qs,h1,⟨?_,?_,fun q hq=>(HN.out q hq).wide (by omega) (Nat.le_refl _),HA.out⟩,hnx⟩
   ·rw [h3];exact h2
   ·exact fun j hj=>(h2.lt j hj).2
def fsts (ps:List RP):List RecD:=ps.map (·.1)
theorem Zbw {ps:List RP}{i:Nat}{p:RP}(h:ps[i]? = some p):(fsts ps)[i]? = some p.1:=by simp [fsts,h]
theorem ZhQ (v1 v2:Value)(ps qs:List RP)(w:World)(h1:Zbo w v1 ps w.heap.size)(h2:Zbo w v2 qs w.heap.size)(hn:ps.length<=1048576)(hns:∀ p∈ps,p.1.near.length<=1048576):
  Calls Tryz.prog 59 #[v1,v2] w fun e w'=>e=.returned (.bool (decide (fsts ps=fsts qs)))/\Below w.heap.size w w':=by
 obtain⟨a1,c1,rfl⟩:=h1.shape;obtain⟨a2,c2,rfl⟩:=h2.shape;by_cases hl:ps.length=qs.length
 ·have K1:=hide h1
  have K2:=hide h2;have HLN:=hide hl;have HNS:=hide hns;rw [<-hl];clear h1 h2 hl hns
  go_enter Tryz.func59,Tryz.ntmps59
  go_wp2
  go_loopw [5] (fun i wr=>∃ k:Nat,k<=ps.length/\i=.int .i64 k/\(∀ j,j<k->(fsts ps)[j]? = (fsts qs)[j]?)/\Below w.heap.size w wr) (fun i _=>ps.length-(intOf i).toNat)
  case atStart=>exact ⟨0,by omega,rfl,by omega,Below.refl _ _⟩
  case round=>
   obtain⟨k,hk,rfl,hall,hnx⟩:=hrel;have HALL:=hide hall;clear hall;by_cases hlt:k<ps.length
   ·obtain ⟨p,hp⟩:∃ l,ps[k]? = some l:=⟨ps[k],List.getElem?_eq_getElem hlt⟩
    obtain⟨r,hr⟩:∃ l,qs[k]? = some l:=⟨qs[k],List.getElem?_eq_getElem (by have:=HLN.out;omega)⟩
    obtain⟨b1,o1,cp1,hv1,hb1,c0,c1',c2',c3,c4,c5,c6,c7,n1⟩:=K1.out.cells k p hp;obtain⟨b2,o2,cp2,hv2,hb2,d0,d1,d2,d3,d4,d5,d6,d7,n2⟩:=K2.out.cells k r hr;cases hv1
    cases hv2
    rw [<-hnx.cell (p:=⟨b1,o1+k*8,none⟩) hb1] at c0;rw [<-hnx.cell (p:=⟨b1,o1+k*8+1,none⟩) hb1] at c1';rw [<-hnx.cell (p:=⟨b1,o1+k*8+2,none⟩) hb1] at c2';rw [<-hnx.cell (p:=⟨b1,o1+k*8+3,none⟩) hb1] at c3;rw [<-hnx.cell (p:=⟨b1,o1+k*8+4,none⟩) hb1] at c4;rw [<-hnx.cell (p:=⟨b1,o1+k*8+5,none⟩) hb1] at c5;rw [<-hnx.cell (p:=⟨b1,o1+k*8+6,none⟩) hb1] at c6;rw [<-hnx.cell (p:=⟨b1,o1+k*8+7,none⟩) hb1] at c7;rw [<-hnx.cell (p:=⟨b2,o2+k*8,none⟩) hb2] at d0;rw [<-hnx.cell (p:=⟨b2,o2+k*8+1,none⟩) hb2] at d1;rw [<-hnx.cell (p:=⟨b2,o2+k*8+2,none⟩) hb2] at d2;rw [<-hnx.cell (p:=⟨b2,o2+k*8+3,none⟩) hb2] at d3;rw [<-hnx.cell (p:=⟨b2,o2+k*8+4,none⟩) hb2] at d4;rw [<-hnx.cell (p:=⟨b2,o2+k*8+5,none⟩) hb2] at d5;rw [<-hnx.cell (p:=⟨b2,o2+k*8+6,none⟩) hb2] at d6;rw [<-hnx.cell (p:=⟨b2,o2+k*8+7,none⟩) hb2] at d7;have hzr:=hnx.size;have hb1':b1<wr.heap.size:=by omega
    have hb2':b2<wr.heap.size:=by omega
    have hki:(0:Int)<=(k:Int):=by omega
    have hkj:(k:Int)<(ps.length:Int):=by omega
    have hkd:Below w.heap.size w wr.drew:=hnx.drew;have m1:=(ZaL.later n1 hkd (Nat.le_refl _)).more hkd.size;have m2:=(ZaL.later n2 hkd (Nat.le_refl _)).more hkd.size;have hq:=ZiG (.agg (recC p.1 p.2)) (.agg (recC r.1 r.2)) p.1 r.1 wr.drew ⟨_,rfl,m1⟩ ⟨_,rfl,m2⟩ (HNS.out p (List.mem_of_getElem? hp));unfold recC at hq;obtain⟨q,hqq⟩:∃ q,q=decide (p.1=r.1):=⟨_,rfl⟩;rw [<-hqq] at hq;have HQ:=hide hq;have HQQ:=hide hqq;have HX:=hide (Zbw hp);have HY:=hide (Zbw hr);clear hq hqq hp hr n1 n2 m1 m2;cases q
    ·go_wp2
     go_region_held3 (fun W=>W.cell? ⟨b1,o1+k*8,none⟩=some (.int .i64 p.1.area)/\W.cell? ⟨b1,o1+k*8+1,none⟩=some (.int .i64 p.1.kind)/\W.cell? ⟨b1,o1+k*8+2,none⟩=some (.int .i64 p.1.owner)/\W.cell? ⟨b1,o1+k*8+3,none⟩=some (.int .i64 p.1.key)/\W.cell? ⟨b1,o1+k*8+4,none⟩=some (.int .i64 p.1.seq)/\W.cell? ⟨b1,o1+k*8+5,none⟩=some (p.2)/\W.cell? ⟨b1,o1+k*8+6,none⟩=some (.int .i64 p.1.cost)/\W.cell? ⟨b1,o1+k*8+7,none⟩=some (.bool p.1.far)/\W.cell? ⟨b2,o2+k*8,none⟩=some (.int .i64 r.1.area)/\W.cell? ⟨b2,o2+k*8+1,none⟩=some (.int .i64 r.1.kind)/\W.cell? ⟨b2,o2+k*8+2,none⟩=some (.int .i64 r.1.owner)/\W.cell? ⟨b2,o2+k*8+3,none⟩=some (.int .i64 r.1.key)/\W.cell? ⟨b2,o2+k*8+4,none⟩=some (.int .i64 r.1.seq)/\W.cell? ⟨b2,o2+k*8+5,none⟩=some (r.2)/\W.cell? ⟨b2,o2+k*8+6,none⟩=some (.int .i64 r.1.cost)/\W.cell? ⟨b2,o2+k*8+7,none⟩=some (.bool r.1.far)) (first | go_keep | (refine ⟨?_,?_,?_,?_,?_,?_,?_,?_,?_,?_,?_,?_,?_,?_,?_,?_⟩ <;> (rw [hbc.cell (by assumption)];assumption))) (first | (go_at_call 96;refine HQ.out.mono ?_;rintro e w1 ⟨rfl,hbc⟩))
     go_wp2
     go_ret
     exact⟨ZaA (ZlY HX.out HY.out (of_decide_eq_false HQQ.out.symm)),hnx.trans ((Below.refl _ _).drew.trans (hbc.mono hzr))⟩
    ·go_wp2
     go_region_held3 (fun W=>W.cell? ⟨b1,o1+k*8,none⟩=some (.int .i64 p.1.area)/\W.cell? ⟨b1,o1+k*8+1,none⟩=some (.int .i64 p.1.kind)/\W.cell? ⟨b1,o1+k*8+2,none⟩=some (.int .i64 p.1.owner)/\W.cell? ⟨b1,o1+k*8+3,none⟩=some (.int .i64 p.1.key)/\W.cell? ⟨b1,o1+k*8+4,none⟩=some (.int .i64 p.1.seq)/\W.cell? ⟨b1,o1+k*8+5,none⟩=some (p.2)/\W.cell? ⟨b1,o1+k*8+6,none⟩=some (.int .i64 p.1.cost)/\W.cell? ⟨b1,o1+k*8+7,none⟩=some (.bool p.1.far)/\W.cell? ⟨b2,o2+k*8,none⟩=some (.int .i64 r.1.area)/\W.cell? ⟨b2,o2+k*8+1,none⟩=some (.int .i64 r.1.kind)/\W.cell? ⟨b2,o2+k*8+2,none⟩=some (.int .i64 r.1.owner)/\W.cell? ⟨b2,o2+k*8+3,none⟩=some (.int .i64 r.1.key)/\W.cell? ⟨b2,o2+k*8+4,none⟩=some (.int .i64 r.1.seq)/\W.cell? ⟨b2,o2+k*8+5,none⟩=some (r.2)/\W.cell? ⟨b2,o2+k*8+6,none⟩=some (.int .i64 r.1.cost)/\W.cell? ⟨b2,o2+k*8+7,none⟩=some (.bool r.1.far)) (first | go_keep | (refine ⟨?_,?_,?_,?_,?_,?_,?_,?_,?_,?_,?_,?_,?_,?_,?_,?_⟩ <;> (rw [hbc.cell (by assumption)];assumption))) (first | (go_at_call 96;refine HQ.out.mono ?_;rintro e w1 ⟨rfl,hbc⟩))
     go_wp2
     go_roundw
     case rel=>exact ⟨k+1,by omega,by go_num,(fun j hj=>by
      by_cases e:j=k
      ·subst e;rw [HX.out,HY.out,of_decide_eq_true HQQ.out.symm]
      ·exact HALL.out j (by omega)),hnx.trans ((Below.refl _ _).drew.trans (hbc.mono hzr))⟩
     case measure=>simp [intOf];omega
   ·have hkn:k=ps.length:=by omega
    have KN:=hide hkn;clear hkn
    go_wp2
    go_ret
    exact⟨ZaV (Zg2 (by simp [fsts,HLN.out]) (by have:=HALL.out;rw [KN.out] at this;simpa [fsts] using this)),hnx⟩
 ·clear h1 h2
  have hd:((ps.length:Int) != (qs.length:Int))=true:=by simp;omega
  go_enter Tryz.func59,Tryz.ntmps59
  go_wp2
  go_ret
  exact⟨ZaA (fun h=>hl (by have:=congrArg List.length h;simpa [fsts] using this)),Below.refl _ _⟩
def mkR (c:Int)(p:RP):RP:=(⟨c,c+1,c+1+1,c+1+1+1,c+1+1+1+1,ZhZ (c+1+1+1+1+1) p.1.near.length,c+1+1+1+1+1+2*(p.1.near.length:Int),(c+1+1+1+1+1+2*(p.1.near.length:Int)+1)%3==0⟩,p.2)
def nxR (c:Int)(p:RP):Int:=c+1+1+1+1+1+2*(p.1.near.length:Int)+1+1
def mkL:Int->List RP->List RP
 | _,[]=>[]
 | c,p::ps=>mkR c p::mkL (nxR c p) ps
def mkE:Int->List RP->Int
 | c,[]=>c
 | c,p::ps=>mkE (nxR c p) ps
theorem Zgd (c:Int)(ps:List RP):(mkL c ps).length=ps.length:=by
 induction ps generalizing c with
 | nil=>rfl
 | cons p ps ih=>simp [mkL,ih]
theorem ZlU (c:Int)(a b:List RP):mkE c (a++b)=mkE (mkE c a) b:=by
 induction a generalizing c with
 | nil=>rfl
 | cons p a ih=>exact ih _
theorem ZlV (c:Int)(a b:List RP):mkL c (a++b)=mkL c a++mkL (mkE c a) b:=by
 induction a generalizing c with
 | nil=>rfl
 | cons p a ih=>simp only [List.cons_append,mkL,mkE,ih]
theorem ZoN {ps:List RP}{k:Nat}{p:RP}(c:Int)(h:ps[k]? = some p):mkE c (ps.take (k+1))=nxR (mkE c (ps.take k)) p:=by
 obtain⟨hk,e⟩:=List.getElem?_eq_some_iff.1 h;rw [List.take_succ_eq_append_getElem hk,ZlU,e]
 rfl
theorem ZoO {ps:List RP}{k:Nat}{p:RP}(c:Int)(h:ps[k]? = some p):mkL c (ps.take (k+1))=mkL c (ps.take k)++[mkR (mkE c (ps.take k)) p]:=by
 obtain⟨hk,e⟩:=List.getElem?_eq_some_iff.1 h;rw [List.take_succ_eq_append_getElem hk,ZlV,e]
 rfl
theorem Znv (c:Int)(ps:List RP):c+2*(tot ps:Int)<=mkE c ps/\mkE c ps<=c+7*(tot ps:Int):=by
 induction ps generalizing c with
 | nil=>simp [mkE,tot]
 | cons p ps ih=>
  have h:=ih (nxR c p);rw [Zig];simp only [mkE]
  unfold nxR at h |-;omega
theorem ZmD (ps:List RP)(k:Nat):tot (ps.take k)<=tot ps:=by
 have h:=Zhv (ps.take k) (ps.drop k);rw [List.take_append_drop] at h;omega
theorem Ziq (ps:List RP):ps.Pairwise ZjB↔(ps.map (·.2)).Pairwise (fun a b:Value=>∀ k,a.ownBlock=some k->b.ownBlock≠some k):=by
 rw [List.pairwise_map];exact Iff.rfl
theorem Zok {ps:List RP}(h:ps.Pairwise ZjB){i k:Nat}{p q:RP}(hi:ps[i]? = some p)(hk:ps[k]? = some q)(hne:i≠k):ZjB p q:=by
 obtain⟨h1,e1⟩:=List.getElem?_eq_some_iff.1 hi;obtain⟨h2,e2⟩:=List.getElem?_eq_some_iff.1 hk;rw [List.pairwise_iff_getElem] at h
 rcases Nat.lt_or_ge i k with hl | hl
 ·have:=h i k h1 h2 hl
  rw [e1,e2] at this;exact this
 ·have:=h k i h2 h1 (by omega)
  rw [e1,e2] at this;exact fun j hj he=>this j he hj
theorem ZpS {ps:List RP}{k:Nat}{p q:RP}(hk:ps[k]? = some p)(h:q.2=p.2):(ps.set k q).map (·.2)=ps.map (·.2):=by
 apply List.ext_getElem?
 intro i;by_cases e:i=k
 ·subst e
  obtain⟨h1,e1⟩:=List.getElem?_eq_some_iff.1 hk;rw [List.getElem?_map,List.getElem?_set_self h1,List.getElem?_map,hk];simp [h]
 ·simp [List.getElem?_set_ne (Ne.symm e)]
theorem RecsOwn.turn {W W8:World}{lo hi g n cap k:Nat}{xs:List RP}{p q:RP}(h:RecsOwn W lo hi (.slice (some ⟨g,0,none⟩) n cap) xs)(hn:xs.length=n)(hk:xs[k]? = some p)(hq:q.2=p.2)
  (row:W8.ownsRow lo 128 8 (.slice (some ⟨g,0,none⟩) n cap) n (flat encP (xs.set k q))) (near:W8.ownsRow lo 225 2 q.2 q.1.near.length (flat nrE q.1.near))
  (hkeep:∀ j,j<W.heap.size->j≠g->some j≠p.2.ownBlock->W8.heap[j]? = W.heap[j]?):RecsOwn W8 lo hi (.slice (some ⟨g,0,none⟩) n cap) (xs.set k q) where
 row:=by rw [List.length_set,hn];exact row
 top:=h.top
 apart:=by rw [Ziq,ZpS hk hq, <-Ziq];exact h.apart
 nears:=by
  intro r hr;obtain⟨i,hi,e⟩:=List.getElem_of_mem hr;have hr2:(xs.set k q)[i]? = some r:=by rw [<-e];exact List.getElem?_eq_getElem hi
  by_cases ek:i=k
  ·subst ek
   rw [List.getElem?_set_self (by simpa using hi)] at hr2
   cases hr2
   refine⟨near,?_⟩
   rw [hq];exact (h.nears p (List.mem_of_getElem? hk)).2
  ·rw [List.getElem?_set_ne (Ne.symm ek)] at hr2
   have ho:=h.nears r (List.mem_of_getElem? hr2);refine⟨Zal ho.1 (fun j hj=>?_),ho.2⟩
   refine hkeep j (ho.1.lt j hj).2 ?_ ?_
   ·rintro rfl
    obtain⟨cur,hh⟩:∃ cur,W.heap[j]? = some (.cells cur 128 (0,0)):=by
     rcases h.row.2 with ⟨h0,_⟩ | ⟨g',cap',cur',hv',_,hh',_⟩
     ·cases h0
     ·cases hv';exact⟨cur',hh'⟩
    rcases ho.1.2 with ⟨h0,_⟩ | ⟨g',cap',cur',hv',_,hh',_⟩
    ·rw [h0] at hj;simp [Value.ownBlock] at hj
    ·rw [hv'] at hj
     simp [Value.ownBlock] at hj
     subst hj;rw [hh] at hh';simp at hh'
   ·intro he
    exact Zok h.apart hr2 hk ek j hj he.symm
theorem set7 {xs:List RP}{k:Nat}{p q:RP}(hk:xs[k]? = some p)(hq:q.2=p.2):
  ((((((((flat encP xs).set (k*8) (.int .i64 q.1.area)).set (k*8+1) (.int .i64 q.1.kind)).set (k*8+2) (.int .i64 q.1.owner)).set (k*8+3) (.int .i64 q.1.key)).set (k*8+4) (.int .i64 q.1.seq)).set (k*8+6) (.int .i64 q.1.cost)).set (k*8+7) (.bool q.1.far))=flat encP (xs.set k q):=by
 obtain⟨hlt,_⟩:=List.getElem?_eq_some_iff.1 hk;have e:(((((((((flat encP xs).set (k*8) (.int .i64 q.1.area)).set (k*8+1) (.int .i64 q.1.kind)).set (k*8+2) (.int .i64 q.1.owner)).set (k*8+3) (.int .i64 q.1.key)).set (k*8+4) (.int .i64 q.1.seq)).set (k*8+5) q.2).set (k*8+6) (.int .i64 q.1.cost)).set (k*8+7) (.bool q.1.far))=flat encP (xs.set k q):=ZbQ Zdq xs k q hlt;rw [<-e]
 congr 2
 have h5:((((((flat encP xs).set (k*8) (.int .i64 q.1.area)).set (k*8+1) (.int .i64 q.1.kind)).set (k*8+2) (.int .i64 q.1.owner)).set (k*8+3) (.int .i64 q.1.key)).set (k*8+4) (.int .i64 q.1.seq))[k*8+5]? = some q.2:=by
  rw [List.getElem?_set_ne (by omega),List.getElem?_set_ne (by omega),List.getElem?_set_ne (by omega),List.getElem?_set_ne (by omega),List.getElem?_set_ne (by omega),ZbF Zdq xs k 5 p hk (by omega),hq]
  rfl
 obtain⟨h6,e6⟩:=List.getElem?_eq_some_iff.1 h5;rw [<-e6];exact (List.set_getElem_self h6).symm
theorem Zap {W:World}{base size n z:Nat}{e t:TypeId}{v:Value}{xs:List Value}{C:Array Value}{fr:Nat × Nat}(ho:W.ownsRow base e size v n xs)(h:W.heap[z]? = some (.cells C t fr))(hne:e≠t):some z≠v.ownBlock:=by
 intro eq
 rcases ho.2 with ⟨h1,_⟩ | ⟨g',cap',cur',hv',_,hh',_⟩
 ·rw [h1] at eq;simp [Value.ownBlock] at eq
 ·rw [hv'] at eq
  simp [Value.ownBlock] at eq
  subst eq;rw [h] at hh';simp at hh'
  exact hne hh'.2.1.symm
abbrev set5 (W:World) (g o:Nat) (z:Int):World:=((((W.setCell ⟨g,o,none⟩ (.int .i64 z)).setCell ⟨g,o+1,none⟩ (.int .i64 (z+1))).setCell ⟨g,o+2,none⟩ (.int .i64 (z+1+1))).setCell ⟨g,o+3,none⟩ (.int .i64 (z+1+1+1))).setCell ⟨g,o+4,none⟩ (.int .i64 (z+1+1+1+1))
theorem Zmg (W:World)(g o:Nat)(z:Int):W.grownBy (set5 W g o z) (some g):=
 Zai (Zai (Zai (Zai (Zaj W g _ _) (Zaj _ g _ _)) (Zaj _ g _ _)) (Zaj _ g _ _)) (Zaj _ g _ _)
def Za2 (l:List Int):List Value:=l.map fun z=>Value.int .i64 z
theorem ZhU (a b:List Int):Za2 (a++b)=Za2 a++Za2 b:=by simp [Za2]
theorem Tryz.info3:(Tryz.prog.info? 3).map (fun i=>(i.zero,i.size,i.bytes))=some (some (.int .i64 0),1,8):=by kernel_rfl
theorem Zbx {P:Program}(w:World){ops:Array Oper}{rest:List Oper}{o:Oper}{a:Act}{Q:Exit->Act->World->Prop}(hgd:o.guard=none)(s x:Operand)(t:TypeId)
  (ho:o.op=.call { callee:=.builtin .append,args:=#[s,x],argTypes:=#[t,t] }) (base:Nat) (e:TypeId) (ht:P.underlying t=some (.slice e))
  (hinfo:(P.info? e).map (fun i=>(i.zero,i.size,i.bytes))=some (some (.int .i64 0),1,8))
  (v:Value) (l:List Int) (z:Int) (hs:a.eval s=v) (hown:w.ownsRow base e 1 v l.length (Za2 l))
  (ad:Addr) (c:Nat) (hx:a.eval x=.slice (some ad) 1 c) (hnews:w.cell? (ad.add 0)=some (.int .i64 z))
  (hlen:l.length+1<=1000000000) (hbase:base<=w.heap.size)
  (h:∀ v' w' l',Hid (l'=l++[z])->w'.ownsRow base e 1 v' l'.length (Za2 l')->w.grownBy w' v.ownBlock->wpList P ops Q rest (a.put o.dst v') w'):wpList P ops Q (o::rest) a w:=by
 obtain⟨i0,hi,hz0,hz1,hz2⟩:=info_parts hinfo;refine wpList_append_own w hgd s x t ho base e i0 (.int .i64 0) 1 8 ht hi hz0 hz1 hz2 rfl (by decide) v l.length (Za2 l) hs hown ad 1 c (Za2 [z]) hx (by simp [Za2]) ?_ ?_ (by unfold maxLen;omega) (by omega) hbase ?_
 ·intro j u hj
  have hj':j=0:=by have:=(List.getElem?_eq_some_iff.1 hj).1;simp [Za2] at this;omega
  subst hj';rw [hnews]
  simpa [Za2] using hj
 ·intro u hu
  simp only [Za2,List.mem_map] at hu
  obtain⟨b,_,rfl⟩:=hu
  rfl
 ·intro v' w' h1 h2 _
  rw [<-ZhU] at h1;exact h v' w' (l++[z]) rfl (by simpa using h1) h2
def intC (zs:List Int)(j:Nat):Value:=.int .i64 (zs.getD j 0)
def Zeb (W:World)(v:Value)(zs:List Int)(B:Nat):Prop:=ZaL W v zs.length 1 (intC zs) B
theorem ZbZ {B:Nat}{w wr:World}(h:Below B w wr)(n:Nat):Below B w (wr.drewN n):=⟨h.os,h.tape,h.output,h.size,h.block⟩
theorem Zff {xs ys:List Int}{k:Nat}(h:xs.getD k 0≠ys.getD k 0):¬xs=ys:=by
 rintro rfl;exact h rfl
theorem Zem {xs ys:List Int}(hl:xs.length=ys.length)(h:∀ j,j<xs.length->xs.getD j 0=ys.getD j 0):xs=ys:=by
 apply List.ext_getElem hl
 intro i h1 h2;have:=h i h1
 simpa [List.getD,List.getElem?_eq_getElem h1,List.getElem?_eq_getElem h2] using this
theorem Zm2 (v1 v2:Value)(xs ys:List Int)(w:World)(h1:Zeb w v1 xs w.heap.size)(h2:Zeb w v2 ys w.heap.size)(hn:xs.length<=1048576):
  Calls Tryz.prog 58 #[v1,v2] w fun e w'=>e=.returned (.bool (decide (xs=ys)))/\Below w.heap.size w w':=by
 obtain⟨a1,c1,rfl,k1⟩:=h1;obtain⟨a2,c2,rfl,k2⟩:=h2;by_cases hl:xs.length=ys.length
 ·have K1:=hide k1
  have K2:=hide k2;clear k1 k2
  go_enter Tryz.func58,Tryz.ntmps58
  go_wp2
  go_loopw [5] (fun i wr=>∃ k:Nat,k<=xs.length/\i=.int .i64 k/\(∀ j,j<k->xs.getD j 0=ys.getD j 0)/\Below w.heap.size w wr) (fun i _=>xs.length-(intOf i).toNat)
  case atStart=>exact ⟨0,by omega,rfl,by omega,Below.refl _ _⟩
  case round=>
   obtain⟨k,hk,rfl,hall,hnx⟩:=hrel;have HALL:=hide hall;clear hall;by_cases hlt:k<xs.length
   ·obtain ⟨b1,o1,ha1,hb1,d1⟩:∃ b1 o1,a1=some ⟨b1,o1,none⟩/\b1<w.heap.size/\wr.cell? ⟨b1,o1+k,none⟩=some (.int .i64 (xs.getD k 0)):=by
     rcases K1.out with h0 | ⟨b,off,ha,hb,hx⟩
     ·omega
     ·exact ⟨b,off,ha,hb,by rw [hnx.cell (p:=⟨b,off+k,none⟩) hb,hx k (by omega)];rfl⟩
    obtain⟨b2,o2,ha2,hb2,d2⟩:∃ b2 o2,a2=some ⟨b2,o2,none⟩/\b2<w.heap.size/\wr.cell? ⟨b2,o2+k,none⟩=some (.int .i64 (ys.getD k 0)):=by
     rcases K2.out with h0 | ⟨b,off,ha,hb,hx⟩
     ·omega
     ·exact ⟨b,off,ha,hb,by rw [hnx.cell (p:=⟨b,off+k,none⟩) hb,hx k (by omega)];rfl⟩
    subst ha1 ha2;have hki:(0:Int)<=(k:Int):=by omega
    have hkj:(k:Int)<(xs.length:Int):=by omega
    have hkl:(k:Int)<(ys.length:Int):=by omega
    obtain⟨x,hx⟩:∃ x,x=xs.getD k 0:=⟨_,rfl⟩;obtain⟨y,hy⟩:∃ y,y=ys.getD k 0:=⟨_,rfl⟩;rw [<-hx] at d1;rw [<-hy] at d2;have HX:=hide hx;have HY:=hide hy;clear hx hy;by_cases hxy:x=y
    ·subst hxy
     go_wp2
     go_quiet (fail)
     go_wp2
     go_roundw
     case rel=>exact ⟨k+1,by omega,by go_num,(fun j hj=>by
      by_cases e:j=k
      ·subst e;rw [<-HX.out, <-HY.out]
      ·exact HALL.out j (by omega)),ZbZ hnx _⟩
     case measure=>simp [intOf];omega
    ·have hd:(x != y)=true:=by simpa using hxy
     go_wp2
     go_quiet (fail)
     go_wp2
     go_ret
     exact⟨ZaA (Zff (k:=k) (by rw [<-HX.out, <-HY.out];exact hxy)),ZbZ hnx _⟩
   ·have hkn:k=xs.length:=by omega
    have KN:=hide hkn;clear hkn
    go_wp2
    go_ret
    exact⟨ZaV (Zem hl (by rw [<-KN.out];exact HALL.out)),hnx⟩
 ·clear k1 k2
  have hd:((xs.length:Int) != (ys.length:Int))=true:=by simp;omega
  go_enter Tryz.func58,Tryz.ntmps58
  go_wp2
  go_ret
  exact⟨ZaA (fun h=>hl (by rw [h])),Below.refl _ _⟩
def ZcA (q:Int):Nat->List Int
 | 0=>[]
 | n+1=>ZcA q n++[q+(n:Int)]
theorem Za9 (q:Int):∀ n,(ZcA q n).length=n
 | 0=>rfl
 | n+1=>by simp [ZcA,Za9 q n]
def Zds (q:Int)(i:Nat)(xs:List Int):List Int:=ZcA q i++xs.drop i
theorem ZgP (q:Int)(i:Nat)(xs:List Int)(h:i<=xs.length):(Zds q i xs).length=xs.length:=by simp [Zds,Za9];omega
theorem Zi5 (q:Int)(i:Nat)(xs:List Int)(h:i<xs.length):(Zds q i xs).set i (q+(i:Int))=Zds q (i+1) xs:=by
 unfold Zds;rw [ZcA,List.set_append_right _ _ (by rw [Za9];omega),Za9,Nat.sub_self,List.drop_eq_getElem_cons h]
 simp only [List.set_cons_zero,List.append_assoc,List.cons_append,List.nil_append]
theorem ZlM (xs:List Int)(i:Nat)(t:Int):(Za2 xs).set i (.int .i64 t)=Za2 (xs.set i t):=by simp [Za2]
theorem Zhg (q:Int):∀ (n k:Nat),k<n->(ZcA q n).getD k 0=q+(k:Int)
 | 0,k,h=>by omega
 | n+1,k,h=>by
  by_cases e:k=n
  ·subst e
   simp [ZcA,List.getD,Za9]
  ·have:=Zhg q n k (by omega)
   have hk:k<(ZcA q n).length:=by rw [Za9];omega
   simp only [ZcA,List.getD,List.getElem?_append_left hk] at this |-
   exact this
def intE (z:Int):List Value:=[.int .i64 z]
theorem ZcW (z:Int):(intE z).length=1:=rfl
theorem ZcC (l:List Int):flat intE l=Za2 l:=by
 induction l with
 | nil=>rfl
 | cons x l ih=>rw [Zcr,ih];rfl
def ZaG (W:World)(v:Value)(l:List Int)(B:Nat):Prop:=ZaD intE 1 W v l B
theorem ZaG.then {W W':World}{v:Value}{l:List Int}(h:ZaG W v l W.heap.size)(hb:Below W.heap.size W W'):ZaG W' v l W'.heap.size:=ZaL.then h hb
theorem ZaG.shape {W:World}{v:Value}{l:List Int}{B:Nat}(h:ZaG W v l B):∃ a cap,v=.slice a l.length cap:=by obtain ⟨a,cap,h,_⟩:=h;exact⟨a,cap,h⟩
theorem ZaG.ints {W:World}{v:Value}{l:List Int}{B:Nat}(h:ZaG W v l B):Zeb W v l B:=by
 obtain⟨a,cap,hv,h2⟩:=h;refine⟨a,cap,hv,?_⟩
 rcases h2 with h0 | ⟨b,off,ha,hb,hx⟩
 ·exact .inl h0
 ·refine .inr ⟨b,off,ha,hb,fun j hj=>?_⟩
  rw [hx j hj,ZcC];have hj':j<l.length:=by omega
  simp [Za2,intC,List.getD,List.getElem?_eq_getElem hj']
theorem ZaG.cell {W:World}{v:Value}{l:List Int}{B:Nat}(h:ZaG W v l B)(i:Nat)(z:Int)(hz:l[i]? = some z):∃ b off cap,v=.slice (some ⟨b,off,none⟩) l.length cap/\b<B/\W.cell? ⟨b,off+i,none⟩=some (.int .i64 z):=by
 obtain⟨b,off,cap,hv,hb,hc⟩:=ZaD.cell h ZcW i z hz;exact⟨b,off,cap,hv,hb,by have:=hc 0 _ rfl;simpa using this⟩
theorem Za4 {W:World}{base:Nat}{v:Value}{l:List Int}(h:W.ownsRow base 3 1 v l.length (flat intE l)):ZaG W v l W.heap.size:=ZaU h
theorem Zmx (v:Value)(ls:List Int)(w:World)(hls:ls.length<=1048576)(hv:ZaG w v ls w.heap.size):
  Calls Tryz.prog 47 #[v] w fun e w'=>∃ x,e=.returned x/\w'.ownsRow w.heap.size 3 1 x ls.length (flat intE ls)/\Below w.heap.size w w':=by
 obtain⟨a,cap,rfl⟩:=hv.shape;have HV:=hide hv;clear hv;obtain⟨i0,hi,hz0,hz1,hz2⟩:=info_parts Tryz.info3;have HI:=hide hi;have HZ:=hide hz0;clear hi hz0
 go_enter Tryz.func47,Tryz.ntmps47
 go_wp2_with (first
  | (refine Za8 ZcW (by omega) _ rfl _ _ 26 rfl w.heap.size 3 i0 (.int .i64 0) 0 rfl Tryz.underlying26 HI.out HZ.out hz1 ls.length rfl rfl (by rw [hz2];omega) (by unfold maxLen;omega) (Nat.le_refl _) ?_))
 intro w1 hown hg;have b1:Below w.heap.size w w1:=(Below.refl _ _).grown hg (Nat.le_refl _) (fun k hk=>by simp at hk)
 have OW:=hide hown;clear hown hg
 go_wp2
 go_loopw [4] (fun i wr=>∃ k:Nat,k<=ls.length/\i=.int .i64 k/\wr.ownsRow w.heap.size 3 1 (.slice (some ⟨w.heap.size,0,none⟩) ls.length ls.length) ls.length (flat intE (part ls 0 k))/\Below w.heap.size w wr) (fun i _=>ls.length-(intOf i).toNat)
 case atStart=>exact ⟨0,by omega,rfl,(by simpa [part] using OW.out),b1⟩
 case round=>
  obtain⟨k,hk,rfl,hown,hnx⟩:=hrel;by_cases hlt:k<ls.length
  ·obtain ⟨l,hl⟩:∃ l,ls[k]? = some l:=⟨ls[k],List.getElem?_eq_getElem hlt⟩
   obtain⟨b,off,cap',hve,hbb,c0⟩:=HV.out.cell k l hl;cases hve
   rw [<-hnx.cell (p:=⟨b,off+k,none⟩) hbb] at c0;have HL:=hide hl;have hki:(0:Int)<=(k:Int):=by omega
   have hkj:(k:Int)<(ls.length:Int):=by omega
   have hex:∃ u,wr.cell? ⟨w.heap.size,k,none⟩=some u:=by
    rw [hown.cellAt _ (by omega)]
    have hln:k<(flat intE (part ls 0 k)).length:=by rw [hown.1];omega
    exact⟨_,List.getElem?_eq_getElem hln⟩
   obtain⟨u0,d0⟩:=hex;have f0:=hown.frozenAt k;have OW3:=hide hown;clear hown hl
   go_wp2
   refine⟨⟨k+1,by omega,by go_num,?_,hnx.setCell (Nat.le_refl _) _⟩,by simp [intOf];omega⟩
   have h4:=(OW3.out.stored k (.int .i64 l)).1;have e4:(flat intE (part ls 0 k)).set k (.int .i64 l)=flat intE (part ls 0 (k+1)):=by
    rw [<-ZdN ls 0 l k HL.out];have e5:=ZbQ ZcW (part ls 0 k) k l (by rw [ZeU _ _ _ hk];exact hlt)
    rw [Nat.mul_one] at e5;rw [<-e5]
    rfl
   rw [e4] at h4;exact h4
  ·have hkn:k=ls.length:=by omega
   have KN:=hide hkn;have OW2:=hide hown;clear hkn hown
   go_wp2
   go_ret
   refine⟨_,rfl,?_,hnx⟩
   have h:=OW2.out;rw [KN.out,ZeT] at h;exact h
theorem Zmr (a:Option Addr)(n c:Nat)(q:Int)(w:World)(hn:(n:Int)<=9223372036854775807)(hq0:0<=q)(hq:q<=1048576):
  Calls Tryz.prog 41 #[.slice a n c,.int .i64 q] w fun e w'=>e=.returned (.int .i64 (if q-(n:Int)<0 then -1 else q-(n:Int)))/\w=w':=by
 by_cases h:q-(n:Int)<0
 ·rw [if_pos h]
  go_enter Tryz.func41,Tryz.ntmps41
  go_wp2
  go_ret
  exact⟨rfl,rfl⟩
 ·rw [if_neg h]
  go_enter Tryz.func41,Tryz.ntmps41
  go_wp2
  go_ret
  exact⟨rfl,rfl⟩
structure WayD where
 to:Int
 cost:Int
 hops:List Int
 deriving DecidableEq
def wayC (x:WayD)(v:Value):Array Value:=#[.int .i64 x.to,.int .i64 x.cost,v]
def Zpw (W:World)(v:Value)(x:WayD)(B:Nat):Prop:=∃ v1,v=.agg (wayC x v1)/\ZaG W v1 x.hops B
theorem Zpw.then {W W':World}{v:Value}{x:WayD}(h:Zpw W v x W.heap.size)(hb:Below W.heap.size W W'):Zpw W' v x W'.heap.size:=by
 obtain⟨v1,hv,h1⟩:=h;exact⟨v1,hv,h1.then hb⟩
theorem Zf5 (w:World)(r:Option Nat):w.grownBy w r:=⟨rfl,rfl,rfl,Nat.le_refl _,fun _ _ _=>rfl⟩
theorem Zi2 (v:Value)(base:Nat)(xs:List Int)(q:Int)(w:World)(h1:w.ownsRow base 3 1 v xs.length (flat intE xs))(hn:xs.length<=1048576)(hq:0<=q)(hq2:q<=1000000000):
  Calls Tryz.prog 38 #[v,.int .i64 q] w fun e w'=>e=.returned (.int .i64 (q+(xs.length:Int)))/\w'.ownsRow base 3 1 v xs.length (flat intE (ZcA q xs.length))/\w.grownBy w' v.ownBlock:=by
 rw [ZcC] at h1;rw [ZcC];by_cases h0:xs.length=0
 ·have hx:xs=[]:=List.length_eq_zero_iff.1 h0
  subst hx;obtain⟨a1,c1,rfl⟩:=Zdv h1;have H1:=hide h1;clear h1 h0
  go_enter Tryz.func38,Tryz.ntmps38
  go_wp2
  refine wp_loop_rounds 1 ?_
  rw [rounds_succ]
  go_wp2
  go_ret
  exact⟨by simp,H1.out,Zf5 _ _⟩
 ·obtain ⟨g1,c1,rfl,hg1,hl1⟩:=Zde h1 (by omega)
  obtain⟨n,hnn⟩:∃ n,n=xs.length:=⟨_,rfl⟩;have NN:=hide hnn;rw [<-hnn] at hn h1 |-;clear hnn h0
  go_enter Tryz.func38,Tryz.ntmps38
  go_wp2
  go_loopw [5,1] (fun i r wr=>∃ k:Nat,k<=n/\i=.int .i64 k/\r=.int .i64 (q+(k:Int))/\wr.ownsRow base 3 1 (.slice (some ⟨g1,0,none⟩) n c1) n (Za2 (Zds q k xs))/\w.grownBy wr (some g1)) (fun i _ _=>n-(intOf i).toNat)
  case atStart=>exact ⟨0,by omega,rfl,by simp,h1,Zf5 _ _⟩
  case round=>
   clear h1;obtain⟨k,hk,rfl,rfl,hown,hnx⟩:=hrel;by_cases hlt:k<n
   ·have hki:(0:Int)<=(k:Int):=by omega
    have hkj:(k:Int)<(n:Int):=by omega
    have hfr1:=hown.frozenAt k;have hcl1:∃ t,wr.cell? ⟨g1,k,none⟩=some (.int .i64 t):=by
     rw [hown.cellAt k (by omega)]
     have hl:k<(Zds q k xs).length:=by rw [ZgP];have:=NN.out;omega;have:=NN.out;omega
     exact⟨(Zds q k xs)[k],by simp [Za2,List.getElem?_eq_getElem hl]⟩
    obtain⟨t,hcl⟩:=hcl1;have hst:=hown.stored k (.int .i64 (q+(k:Int)));rw [ZlM,Zi5 q k xs (by have:=NN.out;omega)] at hst
    have ST:=hide hst.1;clear hst hown
    go_wp2
    go_roundw
    case rel=>exact ⟨k+1,by omega,by go_num,by go_num,ST.out,Zai hnx (Zaj _ _ _ _)⟩
    case measure=>simp [intOf];omega
   ·have hkn:k=n:=by omega
    have KN:=hide hkn;have OW:=hide hown;clear hkn hown
    go_wp2
    go_ret
    refine⟨ZdQ (by rw [KN.out]),?_,hnx⟩
    have h:=OW.out;rw [KN.out] at h;unfold Zds at h;rw [List.drop_eq_nil_of_le (by have:=NN.out;omega),List.append_nil] at h
    exact h
theorem Zng (v:Value)(n:Nat)(q:Int)(w:World)(h1:ZaG w v (ZcA q n) w.heap.size)(hn:n<=1048576)(hq:0<=q)(hq2:q<=1000000000):
  Calls Tryz.prog 39 #[v,.int .i64 q] w fun e w'=>e=.returned (.int .i64 (q+(n:Int)))/\w=w':=by
 obtain⟨a1,c1,rfl,k1⟩:=h1.ints;rw [Za9] at k1 |-;have K1:=hide k1;clear k1 h1
 go_enter Tryz.func39,Tryz.ntmps39
 go_wp2
 go_loop [5,1] (fun i r=>∃ k:Nat,k<=n/\i=.int .i64 k/\r=.int .i64 (q+(k:Int))) (fun i _=>n-(intOf i).toNat)
 case atStart=>exact ⟨0,by omega,rfl,by simp⟩
 case round=>
  obtain⟨k,hk,rfl,rfl⟩:=hrel;by_cases hlt:k<n
  ·obtain ⟨b1,o1,ha1,hb1,d1⟩:∃ b1 o1,a1=some ⟨b1,o1,none⟩/\b1<w.heap.size/\w.cell? ⟨b1,o1+k,none⟩=some (.int .i64 (q+(k:Int))):=by
    rcases K1.out with h0 | ⟨b,off,ha,hb,hx⟩
    ·omega
    ·exact ⟨b,off,ha,hb,by rw [hx k (by omega)];simp only [intC,Zhg q n k hlt]⟩
   subst ha1;have hki:(0:Int)<=(k:Int):=by omega
   have hkj:(k:Int)<(n:Int):=by omega
   go_wp2
   go_round
   case rel=>exact ⟨k+1,by omega,by go_num,by go_num⟩
   case measure=>simp [intOf];omega
  ·have hkn:k=n:=by omega
   have KN:=hide hkn;clear hkn
   go_wp2
   go_ret
   exact⟨ZdQ (by rw [KN.out]),rfl⟩
abbrev WP:=WayD × Value
def encW (p:WP):List Value:=[.int .i64 p.1.to,.int .i64 p.1.cost,p.2]
def Zbi:WayD:=⟨0,0,[]⟩
theorem Zba (p:WP):(encW p).length=3:=rfl
def ZcK (W:World)(v:Value)(ps:List WP)(B:Nat):Prop:=ZaD encW 3 W v ps B/\∀ p∈ps,ZaG W p.2 p.1.hops B
theorem ZcK.shape {W:World}{v:Value}{ps:List WP}{B:Nat}(h:ZcK W v ps B):∃ a cap,v=.slice a ps.length cap:=by
 obtain⟨⟨a,cap,h,_⟩,_⟩:=h;exact⟨a,cap,h⟩
theorem ZcK.later {W W':World}{v:Value}{ps:List WP}{B C:Nat}(h:ZcK W v ps B)(hb:Below C W W')(hBC:B<=C):ZcK W' v ps B:=
 ⟨ZaL.later h.1 hb hBC,fun p hp=>ZaL.later (h.2 p hp) hb hBC⟩
theorem ZcK.more {W:World}{v:Value}{ps:List WP}{B C:Nat}(h:ZcK W v ps B)(hBC:B<=C):ZcK W v ps C:=
 ⟨ZaL.more h.1 hBC,fun p hp=>ZaL.more (h.2 p hp) hBC⟩
theorem ZcK.then {W W':World}{v:Value}{ps:List WP}(h:ZcK W v ps W.heap.size)(hb:Below W.heap.size W W'):ZcK W' v ps W'.heap.size:=(h.later hb (Nat.le_refl _)).more hb.size
def Zbz (W:World)(lo hi:Nat)(p:WP):Prop:=W.ownsRow lo 3 1 p.2 p.1.hops.length (flat intE p.1.hops)/\∀ k,p.2.ownBlock=some k->k<hi
def Zcz (p q:WP):Prop:=∀ k,p.2.ownBlock=some k->q.2.ownBlock≠some k
structure WaysOwn (W:World) (lo hi:Nat) (v:Value) (ps:List WP):Prop where
 row:W.ownsRow lo 104 3 v ps.length (flat encW ps)
 top:∀ k,v.ownBlock=some k->k<hi
 nears:∀ p∈ps,Zbz W lo hi p
 apart:ps.Pairwise Zcz
theorem Zbz.keep {W W':World}{lo hi:Nat}{p:WP}(h:Zbz W lo hi p)(hk:∀ k,lo<=k->k<hi->k<W.heap.size->W'.heap[k]? = W.heap[k]?):Zbz W' lo hi p:=
 ⟨Zal h.1 (fun k e=>hk k (h.1.lt k e).1 (h.2 k e) (h.1.lt k e).2),h.2⟩
theorem Zbz.wide {W:World}{lo hi lo' hi':Nat}{p:WP}(h:Zbz W lo hi p)(hl:lo'<=lo)(hh:hi<=hi'):Zbz W lo' hi' p:=
 ⟨Zah h.1 hl,fun k e=>Nat.lt_of_lt_of_le (h.2 k e) hh⟩
theorem Zbz.at {W:World}{lo hi:Nat}{p:WP}(h:Zbz W lo hi p):ZaG W p.2 p.1.hops hi:=by
 have h1:=ZaU h.1;obtain⟨a,cap,hv,h2⟩:=h1;refine⟨a,cap,hv,?_⟩
 rcases h2 with h0 | ⟨b,off,ha,hb1,hx⟩
 ·exact .inl h0
 ·exact .inr ⟨b,off,ha,h.2 b (by rw [hv,ha];rfl),hx⟩
theorem WaysOwn.keep {W W':World}{lo hi:Nat}{v:Value}{ps:List WP}(h:WaysOwn W lo hi v ps)(hk:∀ k,lo<=k->k<hi->k<W.heap.size->W'.heap[k]? = W.heap[k]?):WaysOwn W' lo hi v ps where
 row:=Zal h.row (fun k e=>hk k (h.row.lt k e).1 (h.top k e) (h.row.lt k e).2)
 top:=h.top
 nears:=fun p hp=>(h.nears p hp).keep hk
 apart:=h.apart
theorem WaysOwn.below {W W':World}{lo hi B:Nat}{v:Value}{ps:List WP}(h:WaysOwn W lo hi v ps)(hb:Below B W W')(hB:hi<=B):WaysOwn W' lo hi v ps:=h.keep (fun k _ h2 _=>hb.block k (by omega))
theorem WaysOwn.wide {W:World}{lo hi lo' hi':Nat}{v:Value}{ps:List WP}(h:WaysOwn W lo hi v ps)(hl:lo'<=lo)(hh:hi<=hi'):WaysOwn W lo' hi' v ps where
 row:=Zah h.row hl
 top:=fun k e=>Nat.lt_of_lt_of_le (h.top k e) hh
 nears:=fun p hp=>(h.nears p hp).wide hl hh
 apart:=h.apart
theorem WaysOwn.at {W:World}{lo hi:Nat}{v:Value}{ps:List WP}(h:WaysOwn W lo hi v ps):ZcK W v ps hi:=by
 refine⟨?_,fun p hp=>(h.nears p hp).at⟩
 have h1:=ZaU h.row;obtain⟨a,cap,hv,h2⟩:=h1;refine⟨a,cap,hv,?_⟩
 rcases h2 with h0 | ⟨b,off,ha,hb1,hx⟩
 ·exact .inl h0
 ·exact .inr ⟨b,off,ha,h.top b (by rw [hv,ha];rfl),hx⟩
theorem WaysOwn.frame {W W':World}{lo hi l2 h2:Nat}{v:Value}{ps:List WP}(h:WaysOwn W lo hi v ps)(hb:Frame l2 h2 W W')(hB:hi<=l2\/h2<=lo):WaysOwn W' lo hi v ps:=h.keep (fun k h1 h2 h3=>hb.block k h3 (by omega))
theorem Zlj {W:World}{lo hi:Nat}{ps:List WP}{p:WP}(h:ps.Pairwise Zcz)(hn:∀ q∈ps,Zbz W lo hi q)(hp:∀ k,p.2.ownBlock=some k->hi<=k):(ps++[p]).Pairwise Zcz:=by
 rw [List.pairwise_append];refine⟨h,by simp,?_⟩
 intro a ha b hb;have:b=p:=by simpa using hb
 subst this;intro k hk he;have h1:=(hn a ha).2 k hk;have h2:=hp k he;omega
def totW (ps:List WP):Nat:=(ps.map (fun p=>1+p.1.hops.length)).sum
theorem ZgH (p:WP)(ps:List WP):totW (p::ps)=1+p.1.hops.length+totW ps:=by simp [totW]
theorem ZkD (a b:List WP):totW (a++b)=totW a+totW b:=by simp [totW]
theorem Zd4 (ps:List WP):ps.length<=totW ps:=by
 induction ps with
 | nil=>simp [totW]
 | cons p ps ih=>rw [ZgH,List.length_cons];omega
theorem Zle {ps:List WP}{p:WP}(h:p∈ps):p.1.hops.length<=totW ps:=by
 induction ps with
 | nil=>simp at h
 | cons q ps ih=>
  rw [ZgH]
  rcases List.mem_cons.1 h with rfl | h1
  ·omega
  ·have:=ih h1;omega
theorem ZcK.cells {W:World}{v:Value}{ps:List WP}{B:Nat}(h:ZcK W v ps B)(i:Nat)(p:WP)(hp:ps[i]? = some p):
  ∃ b off cap,v=.slice (some ⟨b,off,none⟩) ps.length cap/\b<B/\W.cell? ⟨b,off+i*3,none⟩=some (.int .i64 p.1.to)/\W.cell? ⟨b,off+i*3+1,none⟩=some (.int .i64 p.1.cost)/\W.cell? ⟨b,off+i*3+2,none⟩=some p.2/\ZaG W p.2 p.1.hops B:=by
 obtain⟨b,off,cap,hv,hb,hc⟩:=ZaD.cell h.1 Zba i p hp;exact⟨b,off,cap,hv,hb,hc 0 _ rfl,hc 1 _ rfl,hc 2 _ rfl,h.2 p (List.mem_of_getElem? hp)⟩
abbrev putW (W:World) (g o:Nat) (p:WP):World:=((W.setCell ⟨g,o,none⟩ (.int .i64 p.1.to)).setCell ⟨g,o+1,none⟩ (.int .i64 p.1.cost)).setCell ⟨g,o+2,none⟩ p.2
theorem Zhp (W:World)(g o:Nat)(p:WP):W.grownBy (putW W g o p) (some g):=Zai (Zai (Zaj W g _ _) (Zaj _ g _ _)) (Zaj _ g _ _)
theorem ZnQ {W:World}{base g cap n j:Nat}{xs:List WP}{p:WP}(h:W.ownsRow base 104 3 (.slice (some ⟨g,0,none⟩) n cap) n (flat encW xs))(hj:j<xs.length):
  (putW W g (j*3) p).ownsRow base 104 3 (.slice (some ⟨g,0,none⟩) n cap) n (flat encW (xs.set j p)):=by
 have e:(((flat encW xs).set (j*3) (.int .i64 p.1.to)).set (j*3+1) (.int .i64 p.1.cost)).set (j*3+2) p.2=flat encW (xs.set j p):=ZbQ Zba xs j p hj;rw [<-e];exact (((h.stored (j*3) _).1.stored (j*3+1) _).1.stored (j*3+2) _).1
theorem Tryz.infoWay:(Tryz.prog.info? 104).map (fun i=>(i.zero,i.size,i.bytes))=some (some (.agg (wayC Zbi (.slice none 0 0))),3,40):=by kernel_rfl
def Zak (ps:List WP):List WayD:=ps.map (·.1)
theorem ZcV {ps:List WP}{i:Nat}{p:WP}(h:ps[i]? = some p):(Zak ps)[i]? = some p.1:=by simp [Zak,h]
theorem ZgX (ps:List WP):ps.Pairwise Zcz↔(ps.map (·.2)).Pairwise (fun a b:Value=>∀ k,a.ownBlock=some k->b.ownBlock≠some k):=by
 rw [List.pairwise_map];exact Iff.rfl
theorem ZmI {ps:List WP}(h:ps.Pairwise Zcz){i k:Nat}{p q:WP}(hi:ps[i]? = some p)(hk:ps[k]? = some q)(hne:i≠k):Zcz p q:=by
 obtain⟨h1,e1⟩:=List.getElem?_eq_some_iff.1 hi;obtain⟨h2,e2⟩:=List.getElem?_eq_some_iff.1 hk;rw [List.pairwise_iff_getElem] at h
 rcases Nat.lt_or_ge i k with hl | hl
 ·have:=h i k h1 h2 hl
  rw [e1,e2] at this;exact this
 ·have:=h k i h2 h1 (by omega)
  rw [e1,e2] at this;exact fun j hj he=>this j he hj
theorem Zpe {ps:List WP}{k:Nat}{p q:WP}(hk:ps[k]? = some p)(h:q.2=p.2):(ps.set k q).map (·.2)=ps.map (·.2):=by
 apply List.ext_getElem?
 intro i;by_cases e:i=k
 ·subst e
  obtain⟨h1,e1⟩:=List.getElem?_eq_some_iff.1 hk;rw [List.getElem?_map,List.getElem?_set_self h1,List.getElem?_map,hk];simp [h]
 ·simp [List.getElem?_set_ne (Ne.symm e)]
theorem WaysOwn.turn {W W8:World}{lo hi g n cap k:Nat}{xs:List WP}{p q:WP}(h:WaysOwn W lo hi (.slice (some ⟨g,0,none⟩) n cap) xs)(hn:xs.length=n)(hk:xs[k]? = some p)(hq:q.2=p.2)
  (row:W8.ownsRow lo 104 3 (.slice (some ⟨g,0,none⟩) n cap) n (flat encW (xs.set k q))) (near:W8.ownsRow lo 3 1 q.2 q.1.hops.length (flat intE q.1.hops))
  (hkeep:∀ j,j<W.heap.size->j≠g->some j≠p.2.ownBlock->W8.heap[j]? = W.heap[j]?):WaysOwn W8 lo hi (.slice (some ⟨g,0,none⟩) n cap) (xs.set k q) where
 row:=by rw [List.length_set,hn];exact row
 top:=h.top
 apart:=by rw [ZgX,Zpe hk hq, <-ZgX];exact h.apart
 nears:=by
  intro r hr;obtain⟨i,hi,e⟩:=List.getElem_of_mem hr;have hr2:(xs.set k q)[i]? = some r:=by rw [<-e];exact List.getElem?_eq_getElem hi
  by_cases ek:i=k
  ·subst ek
   rw [List.getElem?_set_self (by simpa using hi)] at hr2
   cases hr2
   refine⟨near,?_⟩
   rw [hq];exact (h.nears p (List.mem_of_getElem? hk)).2
  ·rw [List.getElem?_set_ne (Ne.symm ek)] at hr2
   have ho:=h.nears r (List.mem_of_getElem? hr2);refine⟨Zal ho.1 (fun j hj=>?_),ho.2⟩
   refine hkeep j (ho.1.lt j hj).2 ?_ ?_
   ·rintro rfl
    obtain⟨cur,hh⟩:∃ cur,W.heap[j]? = some (.cells cur 104 (0,0)):=by
     rcases h.row.2 with ⟨h0,_⟩ | ⟨g',cap',cur',hv',_,hh',_⟩
     ·cases h0
     ·cases hv';exact⟨cur',hh'⟩
    rcases ho.1.2 with ⟨h0,_⟩ | ⟨g',cap',cur',hv',_,hh',_⟩
    ·rw [h0] at hj;simp [Value.ownBlock] at hj
    ·rw [hv'] at hj
     simp [Value.ownBlock] at hj
     subst hj;rw [hh] at hh';simp at hh'
   ·intro he
    exact ZmI h.apart hr2 hk ek j hj he.symm
structure IntsOwn (W:World) (lo hi:Nat) (v:Value) (l:List Int):Prop where
 row:W.ownsRow lo 3 1 v l.length (flat intE l)
 top:∀ k,v.ownBlock=some k->k<hi
theorem IntsOwn.keep {W W':World}{lo hi:Nat}{v:Value}{l:List Int}(h:IntsOwn W lo hi v l)(hk:∀ k,lo<=k->k<hi->k<W.heap.size->W'.heap[k]? = W.heap[k]?):IntsOwn W' lo hi v l:=
 ⟨Zal h.row (fun k e=>hk k (h.row.lt k e).1 (h.top k e) (h.row.lt k e).2),h.top⟩
theorem IntsOwn.below {W W':World}{lo hi B:Nat}{v:Value}{l:List Int}(h:IntsOwn W lo hi v l)(hb:Below B W W')(hB:hi<=B):IntsOwn W' lo hi v l:=h.keep (fun k _ h2 _=>hb.block k (by omega))
theorem IntsOwn.frame {W W':World}{lo hi l2 h2:Nat}{v:Value}{l:List Int}(h:IntsOwn W lo hi v l)(hb:Frame l2 h2 W W')(hB:hi<=l2\/h2<=lo):IntsOwn W' lo hi v l:=h.keep (fun k h1 h2 h3=>hb.block k h3 (by omega))
theorem IntsOwn.wide {W:World}{lo hi lo' hi':Nat}{v:Value}{l:List Int}(h:IntsOwn W lo hi v l)(hl:lo'<=lo)(hh:hi<=hi'):IntsOwn W lo' hi' v l:=⟨Zah h.row hl,fun k e=>Nat.lt_of_lt_of_le (h.top k e) hh⟩
theorem IntsOwn.at {W:World}{lo hi:Nat}{v:Value}{l:List Int}(h:IntsOwn W lo hi v l):ZaG W v l hi:=by
 obtain⟨a,cap,hv,h2⟩:=ZaU h.row;refine⟨a,cap,hv,?_⟩
 rcases h2 with h0 | ⟨b,off,ha,hb1,hx⟩
 ·exact .inl h0
 ·exact .inr ⟨b,off,ha,h.top b (by rw [hv,ha];rfl),hx⟩
theorem IntsOwn.of {W:World}{lo:Nat}{v:Value}{l:List Int}(h:W.ownsRow lo 3 1 v l.length (flat intE l)):IntsOwn W lo W.heap.size v l:=⟨h,fun k e=>(h.lt k e).2⟩
end Go.Proofs.YtnndlmodjkplnaaGreatDoor
