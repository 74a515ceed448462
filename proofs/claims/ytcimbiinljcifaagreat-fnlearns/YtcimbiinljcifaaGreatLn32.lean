/-
  AppM TellC
-/
import Derived.Test.YtcimbiinljcifaaGreatLn7
import Derived.Test.YtcimbiinljcifaaGreatLn31
namespace Go.Proofs.YtcimbiinljcifaaGreat
open Go.RowKit
set_option linter.unusedSimpArgs false
set_option linter.unusedVariables false
set_option maxRecDepth 100000
set_option maxHeartbeats 8000000
theorem ZhS {α:Type}{enc:α->List Value}{sz bytes:Nat}(hlen:∀ l:List α,(flat enc l).length=l.length*sz)(hpos:0<sz)(hbb:bytes<=100){P:Program}(w:World){ops:Array Oper}{rest:List Oper}{o:Oper}{a:Act}{Q:Exit->Act->World->Prop}(hgd:o.guard=none)(s x:Operand)(t:TypeId)
  (ho:o.op=.call { callee:=.builtin .append,args:=#[s,x],argTypes:=#[t,t] }) (base:Nat) (e:TypeId) (ht:P.underlying t=some (.slice e)) (zv:Value) (hzv:zv.cells.size=sz)
  (hinfo:(P.info? e).map (fun i=>(i.zero,i.size,i.bytes))=some (some zv,sz,bytes))
  (v:Value) (l:List α) (hs:a.eval s=v) (hown:w.ownsRow base e sz v l.length (flat enc l))
  (base2:Nat) (v2:Value) (l2:List α) (hone:∀ a∈l2,∀ u∈enc a,u.oneCell'=true) (hx:a.eval x=v2) (hown2:w.ownsRow base2 e sz v2 l2.length (flat enc l2))
  (hl:l.length+l2.length<=1000000000) (hbase:base<=w.heap.size)
  (h:∀ v' w',w'.ownsRow base e sz v' (l++l2).length (flat enc (l++l2))->w.grownBy w' v.ownBlock->wpList P ops Q rest (a.put o.dst v') w'):wpList P ops Q (o::rest) a w:=by
 obtain⟨i0,hi,hz0,hz1,hz2⟩:=info_parts hinfo
 rcases hown2.2 with ⟨e1,e2⟩ | ⟨g,cap,cur,e1,_⟩
 ·have e3:l2=[]:=List.eq_nil_of_length_eq_zero e2
  subst e3;refine wpList_append_own_none hgd s x t ho base e i0 sz ht hi v l.length (flat enc l) hs hown (hx.trans e1) ?_
  exact h v w (by simpa using hown) (ZcJ w _)
 ·refine wpList_append_own w hgd s x t ho base e i0 zv sz bytes ht hi hz0 hz1 hz2 hzv hpos v l.length (flat enc l) hs hown ⟨g,0,none⟩ l2.length cap (flat enc l2) (hx.trans e1) (hlen l2) (hown2.cells (by rw [e1];rfl)) ?_ (by unfold maxLen;omega) ?_ hbase ?_
  ·intro u hu
   simp only [flat,List.mem_flatMap] at hu
   obtain⟨b,hbm,hb⟩:=hu;exact hone b hbm u hb
  ·have:(l.length+l2.length)*bytes<=1000000000*100:=Nat.mul_le_mul hl hbb
   omega
  ·intro v' w' h1 h2 _
   have e1:flat enc l++flat enc l2=flat enc (l++l2):=by rw [ZaL]
   rw [e1] at h1;exact h v' w' (by simpa using h1) h2
theorem Zki {W:World}{lo hi:Nat}{r:RP}(h:Zat W lo hi r):∀ u∈encP r,u.oneCell'=true:=by
 obtain⟨a,c,e⟩:=Zac h.1;obtain⟨x,v⟩:=r;simp only at e
 subst e;exact Zbm x a _ c
theorem ZlR {qs:List RP}{xs:List RecD}{al:List Int}{src area:Int}(h:Zcy xs al src area (fsts qs)):tot qs<=6:=by
 have ht:=h.tot;have:∀ l:List RP,(∀ r∈fsts l,r.near=[])->tot l<=l.length:=by
  intro l
  induction l with
  | nil=>intro _;simp [tot]
  | cons q l ih=>
   intro h;rw [Zb4,List.length_cons];have h1:=h q.1 (by simp [fsts])
   have h2:=ih (fun r hr=>h r (by simp only [fsts,List.map_cons,List.mem_cons] at hr |-;exact .inr hr))
   rw [h1];simp only [List.length_nil]
   omega
 have h1:=this qs ht.2;have h2:qs.length<=6:=by simpa [fsts] using ht.1
 omega
def Zcv (ps:List RP)(node:Int)(k:Nat):List RP:=(ps.take k).filter (fun p=>ZbN node p.1)
theorem ZjZ (ps:List RP)(node:Int)(k:Nat):(Zcv ps node k).length<=k:=by
 unfold Zcv;exact Nat.le_trans (List.length_filter_le _ _) (by rw [List.length_take];omega)
theorem ZkL (ps:List RP)(node:Int):tot (Zcv ps node ps.length)<=tot ps:=by
 unfold Zcv;rw [List.take_length];exact ZlP _ ps
theorem Zjb (ps:List RP)(node:Int):fsts (Zcv ps node ps.length)=(fsts ps).filter (ZbN node):=by
 unfold Zcv fsts;rw [List.take_length,List.filter_map]
 rfl
theorem Zla (v u:Value)(ps:List RP)(al:List Int)(hi:Nat)(node:Int)(w:World)(hv:RecsIn w hi v ps)(ha:Za9 w u al hi)(hhi:hi<=w.heap.size)(hn:tot ps<=100000)(hal:al.length<=1000):
  Calls Tryz.prog 102 #[v,u,.int .i64 node] w fun e w'=>∃ x qs,e=.returned x/\fsts qs=beyD (fsts ps) al node/\RecsIn w' w'.heap.size x qs/\tot qs<=tot ps+6*al.length/\Below w.heap.size w w':=by
 have hnl:=Za3 ps;obtain⟨a1,c1,rfl⟩:=Zac hv.row;obtain⟨a2,c2,rfl⟩:=ha.shape;have LIT:=Zce w w.heap.size (Nat.le_refl _);have BX:Below w.heap.size w (w.alloc (.cells #[] 40)):=(Below.refl _ _).alloc (Nat.le_refl _) _;obtain⟨w0,hw0⟩:∃ W,W=w.alloc (.cells #[] 40):=⟨_,rfl⟩;rw [<-hw0] at BX LIT;have HTL:=hide (fun (area:Int) W (hb:Below w.heap.size w W)=>ZkA (.slice a1 ps.length c1) (.slice a2 al.length c2) ps al hi node area W (hv.below hb hhi) (ZaT.later ha hb hhi) (Nat.le_trans hhi hb.size) (by omega) (by omega))
 have HV:=hide hv;have HA:=hide ha;have HLIT:=hide LIT;clear hv ha LIT
 go_enter Tryz.func102,Tryz.ntmps102
 go_wp2
 rw [<-hw0];clear hw0
 go_loopw [8,7] (fun i o wr=>∃ (k:Nat) (x:Value) (qs:List RP),k<=al.length/\i=.int .i64 (k:Int)/\o=x/\RecsOwn wr w.heap.size wr.heap.size x qs/\Hid (fsts qs=Zbg (fsts ps) al node (al.take k))/\tot qs<=6*k/\Below w.heap.size w wr) (fun i _ _=>al.length-(intOf i).toNat)
 case atStart=>exact ⟨0,_,[],by omega,rfl,rfl,HLIT.out,hide (by simp [Zbg,fsts]),by simp [tot],BX⟩
 case round=>
  obtain⟨k,x,qs,hk,rfl,rfl,hown,HF,htq,hnx⟩:=hrel;clear HLIT BX;obtain⟨xa,xc,rfl⟩:=Zac hown.row;have hsz:=hnx.size;have hql:=Za3 qs;by_cases hlt:k<al.length
  ·obtain ⟨area,har⟩:∃ a,al[k]? = some a:=⟨al[k],List.getElem?_eq_getElem hlt⟩
   obtain⟨b,off,cap',hve,hbb,c0⟩:=HA.out.cell k area har;cases hve
   rw [<-hnx.cell (p:=⟨b,off+k,none⟩) (by show b<w.heap.size;omega)] at c0
   have hki:(0:Int)<=(k:Int):=by omega
   have hkj:(k:Int)<(al.length:Int):=by omega
   have HAR:=hide har;have HOW:=hide hown;clear har hown
   go_wp2_with fail
   refine (HTL.out area _ hnx).mono ?_
   rintro e w2 ⟨y,bs,rfl,hbs,hob,b2⟩;obtain⟨ya,yc,rfl⟩:=Zac hob.row;have hb2:=b2.size;have htb:=ZlR hbs;have hbl:=Za3 bs;have HF2:=hide (show fsts (qs++bs)=Zbg (fsts ps) al node (al.take (k+1)) by
    rw [Zg5 HAR.out, <-HF.out, <-hbs.eq];simp [fsts])
   have HOB:=hide hob;have HB2:=hide b2;have OW:=hide (Zah HOW.out.row b2 (Nat.le_refl _));clear hbs hob b2
   go_wp2_with (first
    | (at_builtin;refine ZhS (fun l=>Zbt ZaK l) (by omega) (by omega) _ rfl _ _ 29 rfl w.heap.size 40 Tryz.underlying29 (.agg (recC Zbe (.slice none 0 0))) rfl Tryz.infoRec _ qs rfl OW.out wr.heap.size _ bs (fun q hq=>Zki (HOB.out.nears q hq)) rfl HOB.out.row (by omega) (by omega) ?_))
   intro v' w3 hown' hgrow;have N1:=hide (HOW.out.join HB2.out hsz HOB.out (by rw [List.length_append];exact hown') hgrow)
   have N2:=hide ((hnx.trans (HB2.out.mono hsz)).grown hgrow (by omega) (fun j hj=>(HOW.out.row.lt j hj).1))
   have ht2:tot (qs++bs)<=6*(k+1):=by rw [Zbq];omega
   obtain⟨va,vc,rfl⟩:=Zac hown';clear hown' hgrow OW HOB HOW HB2
   go_wp2
   go_roundw
   case rel=>exact ⟨k+1,_,qs++bs,by omega,by go_num,rfl,by simpa using N1.out,HF2,ht2,N2.out⟩
   case measure=>simp [intOf];omega
  ·have hkn:¬(k:Int)<(al.length:Int):=by omega
   have HFA:=hide (show fsts qs=Zbg (fsts ps) al node al by have h:=HF.out;rw [List.take_of_length_le (by omega)] at h;exact h)
   have HOW:=hide hown;have ht6:tot qs<=6*al.length:=by omega
   rename World=>wo
   have OL:(wo.alloc (.cells #[] 40)).ownsRow wo.heap.size 40 8 (.slice (some ⟨wo.heap.size,0,none⟩) 0 0) 0 (flat encP []):=World.ownsRow_lit wo #[] 0 (Nat.le_refl _) (by unfold maxLen;omega) (by simp)
   have BL:Below wo.heap.size wo (wo.alloc (.cells #[] 40)):=(Below.refl _ _).alloc (Nat.le_refl _) _;obtain⟨w4,hw4⟩:∃ W,W=wo.alloc (.cells #[] 40):=⟨_,rfl⟩;rw [<-hw4] at OL BL;have HOL:=hide OL;clear hown HF OL HTL
   go_wp2
   rw [<-hw4];clear hw4
   go_loopw [10,9] (fun i o wr=>∃ (j:Nat) (x:Value),j<=ps.length/\i=.int .i64 (j:Int)/\o=x/\wr.ownsRow wo.heap.size 40 8 x (Zcv ps node j).length (flat encP (Zcv ps node j))/\Below wo.heap.size wo wr) (fun i _ _=>ps.length-(intOf i).toNat)
   case atStart=>exact ⟨0,_,by omega,rfl,rfl,HOL.out,BL⟩
   case round=>
    obtain⟨j,x,hj,rfl,rfl,hown,hnx2⟩:=hrel;clear HOL BL;obtain⟨ya,yc,rfl⟩:=Zac hown;have hsz2:=hnx2.size;have BW:Below w.heap.size w wr:=hnx.trans (hnx2.mono hsz);have hfl:=ZjZ ps node j;have OW:=hide hown;clear hown;by_cases hjl:j<ps.length
    ·obtain ⟨p,hp⟩:∃ p,ps[j]? = some p:=⟨ps[j],List.getElem?_eq_getElem hjl⟩
     obtain⟨bb,off,cap',hve,hbb,c0,c1,c2,c3,c4,c5,c6,c7,hnr⟩:=HV.out.at.cells j p hp;cases hve
     obtain⟨pa,pc,hpn⟩:=ZaA.shape hnr;rw [hpn] at c5;rw [<-BW.cell (p:=⟨bb,off+j*8,none⟩) (Nat.lt_of_lt_of_le hbb hhi)] at c0;rw [<-BW.cell (p:=⟨bb,off+j*8+1,none⟩) (Nat.lt_of_lt_of_le hbb hhi)] at c1;rw [<-BW.cell (p:=⟨bb,off+j*8+2,none⟩) (Nat.lt_of_lt_of_le hbb hhi)] at c2;rw [<-BW.cell (p:=⟨bb,off+j*8+3,none⟩) (Nat.lt_of_lt_of_le hbb hhi)] at c3;rw [<-BW.cell (p:=⟨bb,off+j*8+4,none⟩) (Nat.lt_of_lt_of_le hbb hhi)] at c4;rw [<-BW.cell (p:=⟨bb,off+j*8+5,none⟩) (Nat.lt_of_lt_of_le hbb hhi)] at c5;rw [<-BW.cell (p:=⟨bb,off+j*8+6,none⟩) (Nat.lt_of_lt_of_le hbb hhi)] at c6;rw [<-BW.cell (p:=⟨bb,off+j*8+7,none⟩) (Nat.lt_of_lt_of_le hbb hhi)] at c7;have HP:=hide hp;have HPN:=hide hpn;obtain⟨C,hC⟩:∃ C,C=Zcv ps node j:=⟨_,rfl⟩;rw [<-hC] at OW hfl |-;have HC:=hide hC;have hki:(0:Int)<=(j:Int):=by omega
     have hkj:(j:Int)<(ps.length:Int):=by omega
     clear hp hpn hnr hC;by_cases hK:p.1.kind=2
     ·have hdK:(p.1.kind != 2)=false:=by simpa using hK
      clear hK;by_cases hO:p.1.owner=node
      ·have hdO:(p.1.owner != node)=false:=by simpa using hO
       have HN:=hide (show wr.ownsRow wo.heap.size 40 8 (.slice ya C.length yc) (Zcv ps node (j+1)).length (flat encP (Zcv ps node (j+1))) by
        have e:Zcv ps node (j+1)=C:=by
         rw [HC.out];unfold Zcv;rw [Zdb (fun p=>ZbN node p.1) HP.out,show ZbN node p.1=false by simp [ZbN,hdK,hdO]]
         simp
        rw [e];exact OW.out)
       clear hO OW
       go_wp2
       go_roundw
       case rel=>exact ⟨j+1,_,by omega,by go_num,rfl,HN.out,hnx2⟩
       case measure=>simp [intOf];omega
      ·have hdO:(p.1.owner != node)=true:=by simpa using hO
       clear hO;have HST:=hide (show Zcv ps node (j+1)=C++[(p.1,.slice pa p.1.near.length pc)] by
        rw [HC.out];unfold Zcv;rw [Zdb (fun p=>ZbN node p.1) HP.out,show ZbN node p.1=true by simp [ZbN,hdO]]
        simp [<-HPN.out])
       go_wp2_with (first
        | (at_builtin;refine ZaN ZaK (by omega) (by omega) _ rfl _ _ 29 rfl wo.heap.size 40 Tryz.underlying29 (.agg (recC Zbe (.slice none 0 0))) rfl Tryz.infoRec _ C (p.1,.slice pa p.1.near.length pc) (Zbm _ _ _ _) rfl (OW.out.alloc _) ⟨wr.heap.size,0,none⟩ 1 rfl (Zar (cs:=encP (p.1,.slice pa p.1.near.length pc))) (by omega) (by simp;omega) ?_))
       intro v' w6 hown' hgrow;have N1:=hide (show w6.ownsRow wo.heap.size 40 8 v' (Zcv ps node (j+1)).length (flat encP (Zcv ps node (j+1))) by rw [HST.out];simpa using hown')
       have N2:=hide ((hnx2.alloc hsz2 _).grown hgrow (by simp;omega) (fun i hi=>(OW.out.lt i hi).1))
       obtain⟨va,vc,rfl⟩:=Zac hown';clear hown' hgrow OW HST
       go_wp2
       go_roundw
       case rel=>exact ⟨j+1,_,by omega,by go_num,rfl,N1.out,N2.out⟩
       case measure=>simp [intOf];omega
     ·have hdK:(p.1.kind != 2)=true:=by simpa using hK
      clear hK;have HST:=hide (show Zcv ps node (j+1)=C++[(p.1,.slice pa p.1.near.length pc)] by
       rw [HC.out];unfold Zcv;rw [Zdb (fun p=>ZbN node p.1) HP.out,show ZbN node p.1=true by simp [ZbN,hdK]]
       simp [<-HPN.out])
      go_wp2_with (first
       | (at_builtin;refine ZaN ZaK (by omega) (by omega) _ rfl _ _ 29 rfl wo.heap.size 40 Tryz.underlying29 (.agg (recC Zbe (.slice none 0 0))) rfl Tryz.infoRec _ C (p.1,.slice pa p.1.near.length pc) (Zbm _ _ _ _) rfl (OW.out.alloc _) ⟨wr.heap.size,0,none⟩ 1 rfl (Zar (cs:=encP (p.1,.slice pa p.1.near.length pc))) (by omega) (by simp;omega) ?_))
      intro v' w6 hown' hgrow;have N1:=hide (show w6.ownsRow wo.heap.size 40 8 v' (Zcv ps node (j+1)).length (flat encP (Zcv ps node (j+1))) by rw [HST.out];simpa using hown')
      have N2:=hide ((hnx2.alloc hsz2 _).grown hgrow (by simp;omega) (fun i hi=>(OW.out.lt i hi).1))
      obtain⟨va,vc,rfl⟩:=Zac hown';clear hown' hgrow OW HST
      go_wp2
      go_roundw
      case rel=>exact ⟨j+1,_,by omega,by go_num,rfl,N1.out,N2.out⟩
      case measure=>simp [intOf];omega
    ·have hjn:¬(j:Int)<(ps.length:Int):=by omega
     have hje:j=ps.length:=by omega
     obtain⟨C,hC⟩:∃ C,C=Zcv ps node j:=⟨_,rfl⟩;rw [<-hC] at OW hfl |-;have hCt:tot C<=tot ps:=by rw [hC,hje];exact ZkL ps node
     have HCF:=hide (show fsts C=(fsts ps).filter (ZbN node) by rw [hC,hje];exact Zjb ps node)
     have hCn:∀ p∈C,Zat wr 0 wr.heap.size p:=fun p hp=>by
      have hm:p∈ps:=by rw [hC] at hp;exact List.mem_of_mem_take (List.mem_filter.1 hp).1
      exact ((HV.out.nears p hm).keep (W':=wr) (fun i _ h2 _=>BW.block i (by omega))).wide (Nat.le_refl _) (by omega)
     have HIN:RecsIn wr wr.heap.size (.slice ya C.length yc) C:=⟨Zal OW.out (Nat.zero_le _),fun i hi=>(OW.out.lt i hi).2,hCn⟩
     have HALL:RecsIn wr wr.heap.size (.slice xa qs.length xc) qs:=((HOW.out.below hnx2 (Nat.le_refl _)).wide (Nat.le_refl _) hsz2).in;have HWW:=hide (ZlS _ _ C qs wr.heap.size wr HIN HALL (Nat.le_refl _) (by omega))
     rw [HCF.out,HFA.out] at HWW;have HBW:=hide BW;clear hC hje hCn HIN HALL OW HOW HCF HFA BW
     go_wp2_with fail
     refine HWW.out.mono ?_
     rintro e w7 ⟨y,rs,rfl,hf,hin,htt,b7⟩;obtain⟨yya,yyc,rfl⟩:=Zac hin.row;have HE:=hide (show fsts rs=beyD (fsts ps) al node from hf)
     have HI:=hide hin;have HB:=hide (HBW.out.trans (b7.mono HBW.out.size));have hq:tot rs<=tot ps+6*al.length:=by omega
     clear hf hin b7
     go_wp2
     go_ret
     first
      | exact ⟨_,rs,rfl,HE.out,HI.out,hq,HB.out⟩
      | exact ⟨_,rfl,rs,HE.out,HI.out,hq,HB.out⟩
end Go.Proofs.YtcimbiinljcifaaGreat
