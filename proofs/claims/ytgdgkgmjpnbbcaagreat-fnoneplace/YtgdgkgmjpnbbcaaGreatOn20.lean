/-
  IdealM AppM TellC IdealO
-/
import Derived.Test.YtgdgkgmjpnbbcaaGreatOn1
import Derived.Test.YtgdgkgmjpnbbcaaGreatOn18
import Derived.Test.YtgdgkgmjpnbbcaaGreatOn19
import Derived.Test.YtgdgkgmjpnbbcaaGreatOn2
namespace Go.Proofs.YtgdgkgmjpnbbcaaGreat
open Go.RowKit
set_option linter.unusedSimpArgs false
set_option linter.unusedVariables false
set_option maxRecDepth 100000
set_option maxHeartbeats 8000000
def upB (zs:List Bool)(k:Nat):Bool:=(zs[k]?).getD false
def ZbW (ls:List Lk)(bs zs:List Bool)(v a:Int):Nat->List Nr
 | 0=>[]
 | k+1=>ZbW ls bs zs v a k++(if decide (0<ZdY ls bs v ((k:Int)+1) a)&&upB zs k then [⟨(k:Int)+1,ZdY ls bs v ((k:Int)+1) a⟩] else [])
theorem ZiY (ls:List Lk)(bs zs:List Bool)(v a:Int):∀ k,(ZbW ls bs zs v a k).length<=k
 | 0=>by simp [ZbW]
 | k+1=>by
  have:=ZiY ls bs zs v a k;unfold ZbW;rw [List.length_append]
  split <;> simp <;> omega
def Zb4 (v a:Int)(near:List Nr):RecD:=⟨a,1,v,0,1,near,0,false⟩
def ZbV (t:Th):RecD:=⟨9,3,t.o,t.k,1,[],t.c,t.f⟩
def Zgf (ls:List Lk)(bs zs:List Bool)(N:Nat)(v:Int)(al:List Int)(xs:List RecD):Nat->List RecD
 | 0=>xs
 | j+1=>putD (Zgf ls bs zs N v al xs j) (Zb4 v (al.getD j 0) (ZbW ls bs zs v (al.getD j 0) N))
def idA (ls:List Lk)(bs zs:List Bool)(N:Nat):Nat->List RecD
 | 0=>[]
 | k+1=>if upB zs k then Zgf ls bs zs N ((k:Int)+1) (ZaC ls ((k:Int)+1)) (idA ls bs zs N k) (ZaC ls ((k:Int)+1)).length else idA ls bs zs N k
def idB (ts:List Th)(zs:List Bool)(xs:List RecD):Nat->List RecD
 | 0=>xs
 | k+1=>match ts[k]? with
  | some t=>if upB zs (t.o-1).toNat then putD (idB ts zs xs k) (ZbV t) else idB ts zs xs k
  | none=>idB ts zs xs k
noncomputable def idC (ls:List Lk) (zs:List Bool) (xs:List RecD):Nat->List RecD
 | 0=>xs
 | k+1=>if upB zs k&&ZeS ls ((k:Int)+1) then beyD (idC ls zs xs k) (ZaC ls ((k:Int)+1)) ((k:Int)+1) else idC ls zs xs k
noncomputable def idR (ls:List Lk) (zs:List Bool) (N:Nat) (xs:List RecD):Nat->List RecD
 | 0=>xs
 | r+1=>idC ls zs (idR ls zs N xs r) N
noncomputable def Zc4 (ls:List Lk) (ts:List Th) (bs zs:List Bool) (N:Nat):List RecD:=idR ls zs N (idB ts zs (idA ls bs zs N N) ts.length) 3
theorem ZcJ (ls:List Lk)(v:Int):(ZaC ls v).length<=3:=by
 unfold ZaC;exact Nat.le_trans (List.length_filter_le _ _) (by simp)
theorem ZfY {zs:List Bool}{k:Nat}{b:Bool}(h:zs[k]? = some b):upB zs k=b:=by simp [upB,h]
theorem Zha {ls:List Lk}{bs zs:List Bool}{N:Nat}{v:Int}{al:List Int}{xs:List RecD}{j:Nat}{a:Int}(h:al[j]? = some a):Zgf ls bs zs N v al xs (j+1)=putD (Zgf ls bs zs N v al xs j) (Zb4 v a (ZbW ls bs zs v a N)):=by
 have:al.getD j 0=a:=by simp [List.getD,h]
 simp only [Zgf,this]
theorem Zmv {ls:List Lk}{bs zs:List Bool}{v a q:Int}{k:Nat}(hq:q=ZdY ls bs v ((k:Int)+1) a)(h0:0<q)(hz:zs[k]? = some true):ZbW ls bs zs v a (k+1)=ZbW ls bs zs v a k++[⟨(k:Int)+1,q⟩]:=by
 subst hq;simp only [ZbW,ZfY hz,decide_eq_true h0,Bool.and_self,if_true]
theorem Zky {ls:List Lk}{bs zs:List Bool}{v a q:Int}{k:Nat}{b:Bool}(hq:q=ZdY ls bs v ((k:Int)+1) a)(hz:zs[k]? = some b)(h0:¬0<q\/b=false):ZbW ls bs zs v a (k+1)=ZbW ls bs zs v a k:=by
 subst hq;simp only [ZbW,ZfY hz]
 rcases h0 with h | h
 ·simp [h]
 ·subst h;simp
theorem idA_up {ls:List Lk}{bs zs:List Bool}{N k:Nat}(hz:zs[k]? = some true):idA ls bs zs N (k+1)=Zgf ls bs zs N ((k:Int)+1) (ZaC ls ((k:Int)+1)) (idA ls bs zs N k) (ZaC ls ((k:Int)+1)).length:=by
 simp only [idA,ZfY hz,if_true]
theorem ZnG {ls:List Lk}{bs zs:List Bool}{N k:Nat}(hz:zs[k]? = some false):idA ls bs zs N (k+1)=idA ls bs zs N k:=by
 simp [idA,ZfY hz]
theorem idB_up {ts:List Th}{zs:List Bool}{xs:List RecD}{k m:Nat}{t:Th}(ht:ts[k]? = some t)(hm:t.o=(m:Int)+1)(hz:zs[m]? = some true):idB ts zs xs (k+1)=putD (idB ts zs xs k) (ZbV t):=by
 have:(t.o-1).toNat=m:=by omega
 simp only [idB,ht,this,ZfY hz,if_true]
theorem ZnH {ts:List Th}{zs:List Bool}{xs:List RecD}{k m:Nat}{t:Th}(ht:ts[k]? = some t)(hm:t.o=(m:Int)+1)(hz:zs[m]? = some false):idB ts zs xs (k+1)=idB ts zs xs k:=by
 have:(t.o-1).toNat=m:=by omega
 simp [idB,ht,this,ZfY hz]
theorem ZoY {ls:List Lk}{zs:List Bool}{xs:List RecD}{k:Nat}(hz:zs[k]? = some true)(hb:ZeS ls ((k:Int)+1)=true):idC ls zs xs (k+1)=beyD (idC ls zs xs k) (ZaC ls ((k:Int)+1)) ((k:Int)+1):=by
 simp [idC,ZfY hz,hb]
theorem ZoG {ls:List Lk}{zs:List Bool}{xs:List RecD}{k:Nat}{b:Bool}(hz:zs[k]? = some b)(hb:b=false\/ZeS ls ((k:Int)+1)=false):idC ls zs xs (k+1)=idC ls zs xs k:=by
 rcases hb with h | h
 ·subst h;simp [idC,ZfY hz]
 ·simp [idC,h]
theorem Zdz {α:Type}{enc:α->List Value}{sz bytes:Nat}(hlen:∀ l:List α,(flat enc l).length=l.length*sz)(hpos:0<sz)(hbb:bytes<=100){P:Program}(w:World){ops:Array Oper}{rest:List Oper}{o:Oper}{a:Act}{Q:Exit->Act->World->Prop}(hgd:o.guard=none)(s x:Operand)(t:TypeId)
  (ho:o.op=.call { callee:=.builtin .append,args:=#[s,x],argTypes:=#[t,t] }) (base:Nat) (e:TypeId) (ht:P.underlying t=some (.slice e)) (zv:Value) (hzv:zv.cells.size=sz)
  (hinfo:(P.info? e).map (fun i=>(i.zero,i.size,i.bytes))=some (some zv,sz,bytes))
  (v:Value) (l:List α) (hs:a.eval s=v) (hown:w.ownsRow base e sz v l.length (flat enc l))
  (base2:Nat) (v2:Value) (l2:List α) (hone:∀ a∈l2,∀ u∈enc a,u.oneCell'=true) (hx:a.eval x=v2) (hown2:w.ownsRow base2 e sz v2 l2.length (flat enc l2))
  (hl:l.length+l2.length<=1000000000) (hbase:base<=w.heap.size)
  (h:∀ v' w',w'.ownsRow base e sz v' (l++l2).length (flat enc (l++l2))->w.grownBy w' v.ownBlock->wpList P ops Q rest (a.put o.dst v') w'):wpList P ops Q (o::rest) a w:=by
 obtain⟨i0,hi,hz0,hz1,hz2⟩:=info_parts hinfo
 rcases hown2.2 with ⟨e1,e2⟩ | ⟨g,cap,cur,e1,_⟩
 ·have e3:l2=[]:=List.eq_nil_of_length_eq_zero e2
  subst e3;refine wpList_append_own_none hgd s x t ho base e i0 sz ht hi v l.length (flat enc l) hs hown (hx.trans e1) ?_
  exact h v w (by simpa using hown) (ZcL w _)
 ·refine wpList_append_own w hgd s x t ho base e i0 zv sz bytes ht hi hz0 hz1 hz2 hzv hpos v l.length (flat enc l) hs hown ⟨g,0,none⟩ l2.length cap (flat enc l2) (hx.trans e1) (hlen l2) (hown2.cells (by rw [e1];rfl)) ?_ (by unfold maxLen;omega) ?_ hbase ?_
  ·intro u hu
   simp only [flat,List.mem_flatMap] at hu
   obtain⟨b,hbm,hb⟩:=hu;exact hone b hbm u hb
  ·have:(l.length+l2.length)*bytes<=1000000000*100:=Nat.mul_le_mul hl hbb
   omega
  ·intro v' w' h1 h2 _
   have e1:flat enc l++flat enc l2=flat enc (l++l2):=by rw [ZaD]
   rw [e1] at h1;exact h v' w' (by simpa using h1) h2
theorem Zmw {W:World}{lo hi:Nat}{r:RP}(h:ZaJ W lo hi r):∀ u∈encP r,u.oneCell'=true:=by
 obtain⟨a,c,e⟩:=Zac h.1;obtain⟨x,v⟩:=r;simp only at e
 subst e;exact Zca x a _ c
theorem ZoB {qs:List RP}{xs:List RecD}{al:List Int}{src area:Int}(h:Zcg xs al src area (fsts qs)):tot qs<=6:=by
 have ht:=h.tot;have:∀ l:List RP,(∀ r∈fsts l,r.near=[])->tot l<=l.length:=by
  intro l
  induction l with
  | nil=>intro _;simp [tot]
  | cons q l ih=>
   intro h;rw [Zcs,List.length_cons];have h1:=h q.1 (by simp [fsts])
   have h2:=ih (fun r hr=>h r (by simp only [fsts,List.map_cons,List.mem_cons] at hr |-;exact .inr hr))
   rw [h1];simp only [List.length_nil]
   omega
 have h1:=this qs ht.2;have h2:qs.length<=6:=by simpa [fsts] using ht.1
 omega
def Zc1 (ps:List RP)(node:Int)(k:Nat):List RP:=(ps.take k).filter (fun p=>Zb6 node p.1)
theorem Zl2 (ps:List RP)(node:Int)(k:Nat):(Zc1 ps node k).length<=k:=by
 unfold Zc1;exact Nat.le_trans (List.length_filter_le _ _) (by rw [List.length_take];omega)
theorem Znb (ps:List RP)(node:Int):tot (Zc1 ps node ps.length)<=tot ps:=by
 unfold Zc1;rw [List.take_length];exact ZoA _ ps
theorem ZkZ (ps:List RP)(node:Int):fsts (Zc1 ps node ps.length)=(fsts ps).filter (Zb6 node):=by
 unfold Zc1 fsts;rw [List.take_length,List.filter_map]
 rfl
theorem ZnO (v u:Value)(ps:List RP)(al:List Int)(hi:Nat)(node:Int)(w:World)(hv:RecsIn w hi v ps)(ha:ZaP w u al hi)(hhi:hi<=w.heap.size)(hn:tot ps<=100000)(hal:al.length<=1000):
  Calls Tryz.prog 21 #[v,u,.int .i64 node] w fun e w'=>∃ x qs,e=.returned x/\fsts qs=beyD (fsts ps) al node/\RecsIn w' w'.heap.size x qs/\tot qs<=tot ps+6*al.length/\Below w.heap.size w w':=by
 have hnl:=ZbI ps;obtain⟨a1,c1,rfl⟩:=Zac hv.row;obtain⟨a2,c2,rfl⟩:=ha.shape;have LIT:=Zfg w w.heap.size (Nat.le_refl _);have BX:Below w.heap.size w (w.alloc (.cells #[] 59)):=(Below.refl _ _).alloc (Nat.le_refl _) _;obtain⟨w0,hw0⟩:∃ W,W=w.alloc (.cells #[] 59):=⟨_,rfl⟩;rw [<-hw0] at BX LIT;have HTL:=hide (fun (area:Int) W (hb:Below w.heap.size w W)=>Zm1 (.slice a1 ps.length c1) (.slice a2 al.length c2) ps al hi node area W (hv.below hb hhi) (ZaR.later ha hb hhi) (Nat.le_trans hhi hb.size) (by omega) (by omega))
 have HV:=hide hv;have HA:=hide ha;have HLIT:=hide LIT;clear hv ha LIT
 go_enter Tryz.func21,Tryz.ntmps21
 go_wp2
 rw [<-hw0];clear hw0
 go_loopw [8,7] (fun i o wr=>∃ (k:Nat) (x:Value) (qs:List RP),k<=al.length/\i=.int .i64 (k:Int)/\o=x/\RecsOwn wr w.heap.size wr.heap.size x qs/\Hid (fsts qs=Zbx (fsts ps) al node (al.take k))/\tot qs<=6*k/\Below w.heap.size w wr) (fun i _ _=>al.length-(intOf i).toNat)
 case atStart=>exact ⟨0,_,[],by omega,rfl,rfl,HLIT.out,hide (by simp [Zbx,fsts]),by simp [tot],BX⟩
 case round=>
  obtain⟨k,x,qs,hk,rfl,rfl,hown,HF,htq,hnx⟩:=hrel;clear HLIT BX;obtain⟨xa,xc,rfl⟩:=Zac hown.row;have hsz:=hnx.size;have hql:=ZbI qs;by_cases hlt:k<al.length
  ·obtain ⟨area,har⟩:∃ a,al[k]? = some a:=⟨al[k],List.getElem?_eq_getElem hlt⟩
   obtain⟨b,off,cap',hve,hbb,c0⟩:=HA.out.cell k area har;cases hve
   rw [<-hnx.cell (p:=⟨b,off+k,none⟩) (by show b<w.heap.size;omega)] at c0
   have hki:(0:Int)<=(k:Int):=by omega
   have hkj:(k:Int)<(al.length:Int):=by omega
   have HAR:=hide har;have HOW:=hide hown;clear har hown
   go_wp2_with fail
   refine (HTL.out area _ hnx).mono ?_
   rintro e w2 ⟨y,bs,rfl,hbs,hob,b2⟩;obtain⟨ya,yc,rfl⟩:=Zac hob.row;have hb2:=b2.size;have htb:=ZoB hbs;have hbl:=ZbI bs;have HF2:=hide (show fsts (qs++bs)=Zbx (fsts ps) al node (al.take (k+1)) by
    rw [Zit HAR.out, <-HF.out, <-hbs.eq];simp [fsts])
   have HOB:=hide hob;have HB2:=hide b2;have OW:=hide (Zaf HOW.out.row b2 (Nat.le_refl _));clear hbs hob b2
   go_wp2_with (first
    | (at_builtin;refine Zdz (fun l=>ZaX Zbb l) (by omega) (by omega) _ rfl _ _ 33 rfl w.heap.size 59 Tryz.underlying33 (.agg (recC ZbM (.slice none 0 0))) rfl Tryz.infoRec _ qs rfl OW.out wr.heap.size _ bs (fun q hq=>Zmw (HOB.out.nears q hq)) rfl HOB.out.row (by omega) (by omega) ?_))
   intro v' w3 hown' hgrow;have N1:=hide (HOW.out.join HB2.out hsz HOB.out (by rw [List.length_append];exact hown') hgrow)
   have N2:=hide ((hnx.trans (HB2.out.mono hsz)).grown hgrow (by omega) (fun j hj=>(HOW.out.row.lt j hj).1))
   have ht2:tot (qs++bs)<=6*(k+1):=by rw [Zdu];omega
   obtain⟨va,vc,rfl⟩:=Zac hown';clear hown' hgrow OW HOB HOW HB2
   go_wp2
   go_roundw
   case rel=>exact ⟨k+1,_,qs++bs,by omega,by go_num,rfl,by simpa using N1.out,HF2,ht2,N2.out⟩
   case measure=>simp [intOf];omega
  ·have hkn:¬(k:Int)<(al.length:Int):=by omega
   have HFA:=hide (show fsts qs=Zbx (fsts ps) al node al by have h:=HF.out;rw [List.take_of_length_le (by omega)] at h;exact h)
   have HOW:=hide hown;have ht6:tot qs<=6*al.length:=by omega
   rename World=>wo
   have OL:(wo.alloc (.cells #[] 59)).ownsRow wo.heap.size 59 8 (.slice (some ⟨wo.heap.size,0,none⟩) 0 0) 0 (flat encP []):=World.ownsRow_lit wo #[] 0 (Nat.le_refl _) (by unfold maxLen;omega) (by simp)
   have BL:Below wo.heap.size wo (wo.alloc (.cells #[] 59)):=(Below.refl _ _).alloc (Nat.le_refl _) _;obtain⟨w4,hw4⟩:∃ W,W=wo.alloc (.cells #[] 59):=⟨_,rfl⟩;rw [<-hw4] at OL BL;have HOL:=hide OL;clear hown HF OL HTL
   go_wp2
   rw [<-hw4];clear hw4
   go_loopw [10,9] (fun i o wr=>∃ (j:Nat) (x:Value),j<=ps.length/\i=.int .i64 (j:Int)/\o=x/\wr.ownsRow wo.heap.size 59 8 x (Zc1 ps node j).length (flat encP (Zc1 ps node j))/\Below wo.heap.size wo wr) (fun i _ _=>ps.length-(intOf i).toNat)
   case atStart=>exact ⟨0,_,by omega,rfl,rfl,HOL.out,BL⟩
   case round=>
    obtain⟨j,x,hj,rfl,rfl,hown,hnx2⟩:=hrel;clear HOL BL;obtain⟨ya,yc,rfl⟩:=Zac hown;have hsz2:=hnx2.size;have BW:Below w.heap.size w wr:=hnx.trans (hnx2.mono hsz);have hfl:=Zl2 ps node j;have OW:=hide hown;clear hown;by_cases hjl:j<ps.length
    ·obtain ⟨p,hp⟩:∃ p,ps[j]? = some p:=⟨ps[j],List.getElem?_eq_getElem hjl⟩
     obtain⟨bb,off,cap',hve,hbb,c0,c1,c2,c3,c4,c5,c6,c7,hnr⟩:=HV.out.at.cells j p hp;cases hve
     obtain⟨pa,pc,hpn⟩:=ZaB.shape hnr;rw [hpn] at c5;rw [<-BW.cell (p:=⟨bb,off+j*8,none⟩) (Nat.lt_of_lt_of_le hbb hhi)] at c0;rw [<-BW.cell (p:=⟨bb,off+j*8+1,none⟩) (Nat.lt_of_lt_of_le hbb hhi)] at c1;rw [<-BW.cell (p:=⟨bb,off+j*8+2,none⟩) (Nat.lt_of_lt_of_le hbb hhi)] at c2;rw [<-BW.cell (p:=⟨bb,off+j*8+3,none⟩) (Nat.lt_of_lt_of_le hbb hhi)] at c3;rw [<-BW.cell (p:=⟨bb,off+j*8+4,none⟩) (Nat.lt_of_lt_of_le hbb hhi)] at c4;rw [<-BW.cell (p:=⟨bb,off+j*8+5,none⟩) (Nat.lt_of_lt_of_le hbb hhi)] at c5;rw [<-BW.cell (p:=⟨bb,off+j*8+6,none⟩) (Nat.lt_of_lt_of_le hbb hhi)] at c6;rw [<-BW.cell (p:=⟨bb,off+j*8+7,none⟩) (Nat.lt_of_lt_of_le hbb hhi)] at c7;have HP:=hide hp;have HPN:=hide hpn;obtain⟨C,hC⟩:∃ C,C=Zc1 ps node j:=⟨_,rfl⟩;rw [<-hC] at OW hfl |-;have HC:=hide hC;have hki:(0:Int)<=(j:Int):=by omega
     have hkj:(j:Int)<(ps.length:Int):=by omega
     clear hp hpn hnr hC;by_cases hK:p.1.kind=2
     ·have hdK:(p.1.kind != 2)=false:=by simpa using hK
      clear hK;by_cases hO:p.1.owner=node
      ·have hdO:(p.1.owner != node)=false:=by simpa using hO
       have HN:=hide (show wr.ownsRow wo.heap.size 59 8 (.slice ya C.length yc) (Zc1 ps node (j+1)).length (flat encP (Zc1 ps node (j+1))) by
        have e:Zc1 ps node (j+1)=C:=by
         rw [HC.out];unfold Zc1;rw [ZdP (fun p=>Zb6 node p.1) HP.out,show Zb6 node p.1=false by simp [Zb6,hdK,hdO]]
         simp
        rw [e];exact OW.out)
       clear hO OW
       go_wp2
       go_roundw
       case rel=>exact ⟨j+1,_,by omega,by go_num,rfl,HN.out,hnx2⟩
       case measure=>simp [intOf];omega
      ·have hdO:(p.1.owner != node)=true:=by simpa using hO
       clear hO;have HST:=hide (show Zc1 ps node (j+1)=C++[(p.1,.slice pa p.1.near.length pc)] by
        rw [HC.out];unfold Zc1;rw [ZdP (fun p=>Zb6 node p.1) HP.out,show Zb6 node p.1=true by simp [Zb6,hdO]]
        simp [<-HPN.out])
       go_wp2_with (first
        | (at_builtin;refine ZaG Zbb (by omega) (by omega) _ rfl _ _ 33 rfl wo.heap.size 59 Tryz.underlying33 (.agg (recC ZbM (.slice none 0 0))) rfl Tryz.infoRec _ C (p.1,.slice pa p.1.near.length pc) (Zca _ _ _ _) rfl (OW.out.alloc _) ⟨wr.heap.size,0,none⟩ 1 rfl (Zap (cs:=encP (p.1,.slice pa p.1.near.length pc))) (by omega) (by simp;omega) ?_))
       intro v' w6 hown' hgrow;have N1:=hide (show w6.ownsRow wo.heap.size 59 8 v' (Zc1 ps node (j+1)).length (flat encP (Zc1 ps node (j+1))) by rw [HST.out];simpa using hown')
       have N2:=hide ((hnx2.alloc hsz2 _).grown hgrow (by simp;omega) (fun i hi=>(OW.out.lt i hi).1))
       obtain⟨va,vc,rfl⟩:=Zac hown';clear hown' hgrow OW HST
       go_wp2
       go_roundw
       case rel=>exact ⟨j+1,_,by omega,by go_num,rfl,N1.out,N2.out⟩
       case measure=>simp [intOf];omega
     ·have hdK:(p.1.kind != 2)=true:=by simpa using hK
      clear hK;have HST:=hide (show Zc1 ps node (j+1)=C++[(p.1,.slice pa p.1.near.length pc)] by
       rw [HC.out];unfold Zc1;rw [ZdP (fun p=>Zb6 node p.1) HP.out,show Zb6 node p.1=true by simp [Zb6,hdK]]
       simp [<-HPN.out])
      go_wp2_with (first
       | (at_builtin;refine ZaG Zbb (by omega) (by omega) _ rfl _ _ 33 rfl wo.heap.size 59 Tryz.underlying33 (.agg (recC ZbM (.slice none 0 0))) rfl Tryz.infoRec _ C (p.1,.slice pa p.1.near.length pc) (Zca _ _ _ _) rfl (OW.out.alloc _) ⟨wr.heap.size,0,none⟩ 1 rfl (Zap (cs:=encP (p.1,.slice pa p.1.near.length pc))) (by omega) (by simp;omega) ?_))
      intro v' w6 hown' hgrow;have N1:=hide (show w6.ownsRow wo.heap.size 59 8 v' (Zc1 ps node (j+1)).length (flat encP (Zc1 ps node (j+1))) by rw [HST.out];simpa using hown')
      have N2:=hide ((hnx2.alloc hsz2 _).grown hgrow (by simp;omega) (fun i hi=>(OW.out.lt i hi).1))
      obtain⟨va,vc,rfl⟩:=Zac hown';clear hown' hgrow OW HST
      go_wp2
      go_roundw
      case rel=>exact ⟨j+1,_,by omega,by go_num,rfl,N1.out,N2.out⟩
      case measure=>simp [intOf];omega
    ·have hjn:¬(j:Int)<(ps.length:Int):=by omega
     have hje:j=ps.length:=by omega
     obtain⟨C,hC⟩:∃ C,C=Zc1 ps node j:=⟨_,rfl⟩;rw [<-hC] at OW hfl |-;have hCt:tot C<=tot ps:=by rw [hC,hje];exact Znb ps node
     have HCF:=hide (show fsts C=(fsts ps).filter (Zb6 node) by rw [hC,hje];exact ZkZ ps node)
     have hCn:∀ p∈C,ZaJ wr 0 wr.heap.size p:=fun p hp=>by
      have hm:p∈ps:=by rw [hC] at hp;exact List.mem_of_mem_take (List.mem_filter.1 hp).1
      exact ((HV.out.nears p hm).keep (W':=wr) (fun i _ h2 _=>BW.block i (by omega))).wide (Nat.le_refl _) (by omega)
     have HIN:RecsIn wr wr.heap.size (.slice ya C.length yc) C:=⟨Zah OW.out (Nat.zero_le _),fun i hi=>(OW.out.lt i hi).2,hCn⟩
     have HALL:RecsIn wr wr.heap.size (.slice xa qs.length xc) qs:=((HOW.out.below hnx2 (Nat.le_refl _)).wide (Nat.le_refl _) hsz2).in;have HWW:=hide (ZoE _ _ C qs wr.heap.size wr HIN HALL (Nat.le_refl _) (by omega))
     rw [HCF.out,HFA.out] at HWW;have HBW:=hide BW;clear hC hje hCn HIN HALL OW HOW HCF HFA BW
     go_wp2_with fail
     refine HWW.out.mono ?_
     rintro e w7 ⟨y,rs,rfl,hf,hin,htt,b7⟩;obtain⟨yya,yyc,rfl⟩:=Zac hin.row;have HE:=hide (show fsts rs=beyD (fsts ps) al node from hf)
     have HI:=hide hin;have HB:=hide (HBW.out.trans (b7.mono HBW.out.size));have hq:tot rs<=tot ps+6*al.length:=by omega
     clear hf hin b7
     go_wp2
     go_ret
     first
      | exact ⟨_,rs,rfl,HE.out,HI.out,hq,HB.out⟩
      | exact ⟨_,rfl,rs,HE.out,HI.out,hq,HB.out⟩
theorem Zki {rs:List RecD}(h:Asc rs)(r:RecD):Asc (putD rs r):=by
 unfold putD Asc;rw [List.append_assoc,List.pairwise_append];refine⟨List.Pairwise.filter _ h,?_,?_⟩
 ·rw [List.pairwise_append]
  refine⟨by simp,List.Pairwise.filter _ h,fun a ha b hb=>?_⟩
  have:a=r:=by simpa using ha
  subst this;exact (List.mem_filter.1 hb).2
 ·intro a ha b hb
  have h1:=(List.mem_filter.1 ha).2
  rcases List.mem_append.1 hb with h2 | h2
  ·have:b=r:=by simpa using h2
   subst this;exact h1
  ·exact ZdM h1 (List.mem_filter.1 h2).2
theorem Ze5 {xs:List RecD}{r x:RecD}(h:x∈putD xs r):x∈xs\/x=r:=by
 unfold putD at h;simp only [List.append_assoc,List.mem_append,List.mem_filter,List.mem_singleton] at h
 rcases h with h | h | h
 ·exact .inl h.1
 ·exact .inr h
 ·exact .inl h.1
def cntR (p:RecD->Bool)(xs:List RecD):Nat:=(xs.filter p).length
theorem Zgk (p:RecD->Bool)(a b:List RecD):cntR p (a++b)=cntR p a+cntR p b:=by simp [cntR]
theorem Znt (p f g:RecD->Bool)(hfg:∀ x,f x=true->g x=false)(xs:List RecD):cntR p (xs.filter f)+cntR p (xs.filter g)<=cntR p xs:=by
 induction xs with
 | nil=>simp [cntR]
 | cons x xs ih=>
  have h:=hfg x;unfold cntR at *;simp only [List.filter_cons]
  cases hf:f x <;> cases hg:g x <;> cases hp:p x <;> simp_all <;> omega
theorem ZhQ (p:RecD->Bool)(xs:List RecD)(r:RecD):cntR p (putD xs r)<=cntR p xs+(if p r then 1 else 0):=by
 unfold putD;rw [Zgk,Zgk];have h:=Znt p (fun x=>Zas x r) (fun x=>Zas r x) (fun x hx=>Zet hx) xs
 have h1:cntR p [r]=if p r then 1 else 0:=by unfold cntR;cases hp:p r <;> simp [hp]
 omega
theorem Zgl (p f:RecD->Bool)(xs:List RecD):cntR p (xs.filter f)<=cntR p xs:=by
 unfold cntR;rw [List.filter_filter]
 induction xs with
 | nil=>simp
 | cons x xs ih=>
  simp only [List.filter_cons]
  cases hf:f x <;> cases hp:p x <;> simp_all
  omega
theorem ZoT (p:RecD->Bool)(xs:List RecD):cntR p xs<=xs.length:=List.length_filter_le _ _
theorem Zgm {p:RecD->Bool}{xs:List RecD}(h:∀ x∈xs,p x=false):cntR p xs=0:=by
 unfold cntR;rw [List.length_eq_zero_iff,List.filter_eq_nil_iff];intro a ha;rw [h a ha];decide
def hisR (u:Int)(r:RecD):Bool:=r.kind==2&&r.owner==u
def ownR (r:RecD):Bool:=r.kind != 2
theorem ZhG:∀ {ts:List RecD}{xs:List RecD},Asc xs->(∀ r∈xs,Za8 r=true)->(∀ r∈ts,Za8 (seq1 r)=true)->Asc (Zd5 xs ts)/\∀ r∈Zd5 xs ts,Za8 r=true
 | [],xs,h1,h2,_=>⟨h1,h2⟩
 | t::ts,xs,h1,h2,h3=>by
  have:=ZhG (ts:=ts) (xs:=putD xs (seq1 t)) (Zki h1 _) (fun r hr=>by
   rcases Ze5 hr with h | h
   ·exact h2 r h
   ·rw [h];exact h3 t (by simp)) (fun r hr=>h3 r (List.mem_cons_of_mem _ hr))
  exact this
theorem ZhR (p:RecD->Bool)(hp:∀ r,p (seq1 r)=p r):∀ (ts xs:List RecD),cntR p (Zd5 xs ts)<=cntR p xs+cntR p ts
 | [],xs=>by simp [Zd5,cntR]
 | t::ts,xs=>by
  have h:=ZhR p hp ts (putD xs (seq1 t));have h1:=ZhQ p xs (seq1 t);have h2:cntR p (t::ts)=(if p t then 1 else 0)+cntR p ts:=by unfold cntR;cases hp':p t <;> simp [hp'] <;> omega
  rw [hp] at h1;have h3:Zd5 xs (t::ts)=Zd5 (putD xs (seq1 t)) ts:=rfl;rw [h3];omega
theorem Zfi (r:RecD):(seq1 r).kind=r.kind/\(seq1 r).owner=r.owner:=by unfold seq1;split <;> exact ⟨rfl,rfl⟩
theorem ZnF (u:Int)(r:RecD):hisR u (seq1 r)=hisR u r:=by unfold hisR;rw [(Zfi r).1,(Zfi r).2]
theorem Zn7 (r:RecD):ownR (seq1 r)=ownR r:=by unfold ownR;rw [(Zfi r).1]
theorem ZnR {xs:List RecD}{al:List Int}{src a:Int}{r:RecD}(h:r∈tolD xs al src a):∃ to c,r=ZbX a src to c/\ZcZ xs al src a to c:=by
 unfold tolD at h
 split at h
 ·rename_i hx
  exact ((Classical.choose_spec hx).2 r).1 h
 ·cases h
theorem Zow (xs:List RecD)(al:List Int)(src a:Int):(tolD xs al src a).length<=6:=by
 unfold tolD
 split
 ·rename_i hx
  exact (Classical.choose_spec hx).tot.1
 ·simp
theorem ZdD {xs:List RecD}{al bl:List Int}{src:Int}{r:RecD}(h:r∈Zbx xs al src bl):∃ a to c,a∈bl/\r=ZbX a src to c/\ZcZ xs al src a to c:=by
 unfold Zbx at h;obtain⟨a,ha,hr⟩:=List.mem_flatMap.1 h;obtain⟨to,c,h1,h2⟩:=ZnR hr;exact⟨a,to,c,ha,h1,h2⟩
theorem Zge (xs:List RecD)(al:List Int)(src:Int):∀ bl:List Int,(Zbx xs al src bl).length<=6*bl.length
 | []=>by simp [Zbx]
 | a::bl=>by
  have h:=Zge xs al src bl;have h1:=Zow xs al src a;have h2:Zbx xs al src (a::bl)=tolD xs al src a++Zbx xs al src bl:=rfl;rw [h2,List.length_append,List.length_cons];omega
theorem Zm8 {xs:List RecD}{al:List Int}{src a to c:Int}(h:ZcZ xs al src a to c):0<=c/\c<=60000:=by
 obtain⟨_,_,⟨w,h1,e⟩ | ⟨_,w,h1,e⟩⟩:=h
 ·rw [e];exact (ZeR h1 (fun d h=>ZaI h)).1.cost
 ·rw [e];exact (ZeR h1 (fun d h=>Zba h)).1.cost
theorem Zpj {a node to c:Int}(ha:0<=a/\a<=2)(hn:1<=node/\node<=6)(ht:1<=to/\to<=6)(hc:0<=c/\c<=60000):Za8 (seq1 (ZbX a node to c))=true:=by
 simp [Za8,seq1,ZbX,inB]
 omega
theorem Zhm {ls:List Lk}{v a:Int}(h:a∈ZaC ls v):0<=a/\a<=2:=by
 unfold ZaC at h;have:=(List.mem_filter.1 h).1;simp at this
 omega
structure IdOk (N:Nat) (xs:List RecD):Prop where
 asc:Asc xs
 ok:∀ r∈xs,Za8 r=true
 own:cntR ownR xs<=22
 his:∀ u,cntR (hisR u) xs<=18
theorem IdOk.bey {N:Nat}{xs:List RecD}(h:IdOk N xs){ls:List Lk}{node:Int}(hn:1<=node/\node<=6):IdOk N (beyD xs (ZaC ls node) node):=by
 have hal:=ZcJ ls node;have hlen:=Zge xs (ZaC ls node) node (ZaC ls node);obtain⟨k1,k2⟩:=ZhG (ts:=Zbx xs (ZaC ls node) node (ZaC ls node)) (xs:=xs.filter (Zb6 node)) (List.Pairwise.filter _ h.asc) (fun r hr=>h.ok r (List.mem_filter.1 hr).1) (fun r hr=>by
  obtain⟨a,to,c,ha,rfl,ht⟩:=ZdD hr;exact Zpj (Zhm ha) hn (Zc0 ht) (Zm8 ht))
 refine⟨k1,k2,?_,fun u=>?_⟩
 ·have h1:=ZhR ownR Zn7 (Zbx xs (ZaC ls node) node (ZaC ls node)) (xs.filter (Zb6 node))
  have h2:=Zgl ownR (Zb6 node) xs;have h3:cntR ownR (Zbx xs (ZaC ls node) node (ZaC ls node))=0:=Zgm (fun r hr=>by
   obtain⟨a,to,c,ha,rfl,ht⟩:=ZdD hr
   rfl)
  have h4:=h.own;unfold beyD;omega
 ·have h1:=ZhR (hisR u) (ZnF u) (Zbx xs (ZaC ls node) node (ZaC ls node)) (xs.filter (Zb6 node))
  have h2:=Zgl (hisR u) (Zb6 node) xs;unfold beyD;by_cases e:u=node
  ·have h3:cntR (hisR u) (xs.filter (Zb6 node))=0:=Zgm (fun r hr=>by
    have:=(List.mem_filter.1 hr).2;subst e;unfold Zb6 at this;unfold hisR;simp only [Bool.or_eq_true,bne_iff_ne,ne_eq] at this
    simp only [Bool.and_eq_false_iff,beq_eq_false_iff_ne,ne_eq]
    exact this)
   have h4:=ZoT (hisR u) (Zbx xs (ZaC ls node) node (ZaC ls node));omega
  ·have h3:cntR (hisR u) (Zbx xs (ZaC ls node) node (ZaC ls node))=0:=Zgm (fun r hr=>by
    obtain⟨a,to,c,ha,rfl,ht⟩:=ZdD hr;simp [hisR,ZbX]
    exact fun h=>e h.symm)
   have h4:=h.his u;omega
theorem ZoH {N:Nat}{ls:List Lk}{zs:List Bool}{xs:List RecD}(h:IdOk N xs):∀ k,k<=6->IdOk N (idC ls zs xs k)
 | 0,_=>h
 | k+1,hk=>by
  have ih:=ZoH (ls:=ls) (zs:=zs) h k (by omega)
  unfold idC
  split
  ·exact ih.bey (by omega)
  ·exact ih
theorem ZoI {N:Nat}{ls:List Lk}{zs:List Bool}{xs:List RecD}(hN:N<=6)(h:IdOk N xs):∀ r,IdOk N (idR ls zs N xs r)
 | 0=>h
 | r+1=>ZoH (ZoI hN h r) N hN
theorem ZnI {N:Nat}{xs:List RecD}(h:IdOk N xs):xs.length<=130:=by
 have key:∀ ys:List RecD,(∀ r∈ys,Za8 r=true)->ys.length<=cntR ownR ys+(cntR (hisR 1) ys+cntR (hisR 2) ys+cntR (hisR 3) ys+cntR (hisR 4) ys+cntR (hisR 5) ys+cntR (hisR 6) ys):=by
  intro ys
  induction ys with
  | nil=>intro _;simp
  | cons y ys ih=>
   intro hy;have h1:=ih (fun r hr=>hy r (List.mem_cons_of_mem _ hr))
   have h2:=hy y (by simp)
   have ho:1<=y.owner/\y.owner<=6:=by
    simp only [Za8,Bool.and_eq_true,inB,decide_eq_true_eq] at h2
    exact h2.1.1
   have hc:∀ p:RecD->Bool,cntR p (y::ys)=(if p y then 1 else 0)+cntR p ys:=by
    intro p;unfold cntR;cases hp:p y <;> simp [hp] <;> omega
   simp only [hc,List.length_cons]
   by_cases hk:y.kind=2
   ·have hcase:y.owner=1\/y.owner=2\/y.owner=3\/y.owner=4\/y.owner=5\/y.owner=6:=by omega
    rcases hcase with e | e | e | e | e | e <;> simp [hisR,ownR,hk,e] <;> omega
   ·have:ownR y=true:=by simp [ownR,hk]
    rw [this];simp only [if_true]
    omega
 have h0:=key xs h.ok;have h1:=h.own;have h2:=h.his;have a1:=h2 1;have a2:=h2 2;have a3:=h2 3;have a4:=h2 4;have a5:=h2 5;have a6:=h2 6;omega
theorem Zk4 {N:Nat}{xs:List RecD}(h:IdOk N xs):ZaE xs=true:=by
 have hl:=ZnI h;unfold ZaE;rw [Znl h.asc,decide_eq_true (show xs.length<=150 by omega)]
 simp only [Bool.true_and,Bool.and_true]
 refine Zbf (fun j hj=>?_)
 rw [Zcz (List.getElem?_eq_getElem hj)];exact h.ok _ (List.getElem_mem hj)
theorem ZoK {n:Int}{ls:List Lk}(h:Zer n ls=true):∀ l∈ls,ZbG n l=true:=by
 intro l hl;unfold Zer at h;simp only [Bool.and_eq_true] at h
 obtain⟨i,hi,e⟩:=List.mem_iff_getElem.1 hl;have h1:=List.all_eq_true.1 h.1.2 i (List.mem_range.2 hi);rw [Zcz (List.getElem?_eq_getElem hi),e] at h1;exact h1
theorem ZkC {n:Int}{ts:List Th}(h:Zdf n ts=true):∀ t∈ts,Zd4 n t=true:=by
 intro l hl;unfold Zdf at h;simp only [Bool.and_eq_true] at h
 obtain⟨i,hi,e⟩:=List.mem_iff_getElem.1 hl;have h1:=List.all_eq_true.1 h.1.2 i (List.mem_range.2 hi);rw [Zcz (List.getElem?_eq_getElem hi),e] at h1;exact h1
theorem Zn3 {n:Int}{ls:List Lk}{bs:List Bool}(h:∀ l∈ls,ZbG n l=true){f t r:Int}(h0:0<ZdY ls bs f t r):1<=ZdY ls bs f t r/\ZdY ls bs f t r<=1000/\f≠t:=by
 unfold ZdY at *;cases hf:(ls.zip bs).find? (Zg3 f t r) with
 | none=>rw [hf] at h0;simp at h0
 | some p=>
  rw [hf] at h0;simp only [Option.map_some,Option.getD_some] at h0 |-
  have hm:=List.mem_of_find?_eq_some hf;have hp:=List.find?_some hf;have hl:=h p.1 (List.of_mem_zip hm).1;simp only [ZbG,inB,Bool.and_eq_true,decide_eq_true_eq] at hl
  simp only [Zg3,ZdJ,Bool.and_eq_true,Bool.or_eq_true,beq_iff_eq] at hp
  omega
theorem Zh4 {ls:List Lk}{bs zs:List Bool}{v a:Int}:∀ {k:Nat} {x:Nr},x∈ZbW ls bs zs v a k->1<=x.to/\x.to<=(k:Int)/\0<x.c/\x.c=ZdY ls bs v x.to a
 | 0,x,h=>by simp [ZbW] at h
 | k+1,x,h=>by
  unfold ZbW at h
  rcases List.mem_append.1 h with h1 | h1
  ·have:=Zh4 h1
   refine⟨this.1,by omega,this.2.2⟩
  ·split at h1
   ·rename_i hc
    simp only [Bool.and_eq_true,decide_eq_true_eq] at hc
    have e:x=⟨(k:Int)+1,ZdY ls bs v ((k:Int)+1) a⟩:=by simpa using h1
    subst e;exact⟨by show (1:Int)<=(k:Int)+1;omega,by show (k:Int)+1<=((k+1:Nat):Int);omega,hc.1,rfl⟩
   ·cases h1
theorem ZiX (ls:List Lk)(bs zs:List Bool)(v a:Int):∀ k,(ZbW ls bs zs v a k).Pairwise (fun x y=>x.to<y.to)
 | 0=>by simp [ZbW]
 | k+1=>by
  unfold ZbW;rw [List.pairwise_append];refine⟨ZiX ls bs zs v a k,?_,fun x hx y hy=>?_⟩
  ·split <;> simp
  ·have h1:=Zh4 hx
   split at hy
   ·have e:y=⟨(k:Int)+1,ZdY ls bs v ((k:Int)+1) a⟩:=by simpa using hy
    subst e
    show x.to<(k:Int)+1
    omega
   ·cases hy
theorem ZnU {n:Int}{ls:List Lk}{bs zs:List Bool}(h:∀ l∈ls,ZbG n l=true)(v a:Int){N:Nat}(hN:N<=6):Zbj v (ZbW ls bs zs v a N)=true:=by
 unfold Zbj;rw [Bool.and_eq_true];refine⟨Zbf (fun j hj=>?_),Zbf (fun j hj=>?_)⟩
 ·rw [Zcz (List.getElem?_eq_getElem hj)]
  have h1:=Zh4 (List.getElem_mem hj);have h2:=Zn3 h (by rw [<-h1.2.2.2];exact h1.2.2.1)
  rw [<-h1.2.2.2] at h2;simp only [Zcm,inB,Bool.and_eq_true,decide_eq_true_eq,Bool.not_eq_true',beq_eq_false_iff_ne,ne_eq]
  refine⟨⟨⟨h1.1,by omega⟩,fun e=>h2.2.2 e.symm⟩,h2.1,h2.2.1⟩
 ·cases j with
  | zero=>rfl
  | succ j=>
   rw [ZbF (List.getElem?_eq_getElem (by omega)) (List.getElem?_eq_getElem hj)]
   have:=List.pairwise_iff_getElem.1 (ZiX ls bs zs v a N) j (j+1) (by omega) hj (by omega)
   refine decide_eq_true ?_
   show (ZbW ls bs zs v a N)[j].to-(ZbW ls bs zs v a N)[j+1].to<0
   omega
theorem Zo4 {v a:Int}{near:List Nr}(hv:1<=v/\v<=6)(ha:0<=a/\a<=2)(hn:Zbj v near=true):Za8 (Zb4 v a near)=true:=by
 simp [Za8,Zb4,inB,hv.1,hv.2,ha.1,ha.2,hn]
theorem Zov {t:Th}(ho:1<=t.o/\t.o<=6)(hk:1<=t.k/\t.k<=9)(hc:1<=t.c/\t.c<=1000):Za8 (ZbV t)=true:=by
 simp [Za8,ZbV,inB,ho.1,ho.2,hk.1,hk.2,hc.1,hc.2]
structure IdOwn (c:Nat) (xs:List RecD):Prop where
 asc:Asc xs
 ok:∀ r∈xs,Za8 r=true
 own:cntR ownR xs<=c
 his:∀ u,cntR (hisR u) xs=0
theorem IdOwn.put {c:Nat}{xs:List RecD}(h:IdOwn c xs){r:RecD}(hr:Za8 r=true)(hk:r.kind≠2):IdOwn (c+1) (putD xs r) where
 asc:=Zki h.asc r
 ok:=fun x hx=>by
  rcases Ze5 hx with h1 | h1
  ·exact h.ok x h1
  ·rw [h1];exact hr
 own:=by
  have:=ZhQ ownR xs r;have h1:=h.own
  split at this <;> omega
 his:=fun u=>by
  have:=ZhQ (hisR u) xs r;have h1:=h.his u;have h2:hisR u r=false:=by simp [hisR,hk]
  rw [h2] at this;simp at this
  omega
theorem IdOwn.more {c d:Nat}{xs:List RecD}(h:IdOwn c xs)(hd:c<=d):IdOwn d xs:=⟨h.asc,h.ok,Nat.le_trans h.own hd,h.his⟩
theorem Ziv {n:Int}{ls:List Lk}{bs zs:List Bool}{N:Nat}{v:Int}{xs:List RecD}{c:Nat}(hl:∀ l∈ls,ZbG n l=true)(hN:N<=6)(hv:1<=v/\v<=6)(h:IdOwn c xs):∀ j,j<=(ZaC ls v).length->IdOwn (c+j) (Zgf ls bs zs N v (ZaC ls v) xs j)
 | 0,_=>h
 | j+1,hj=>by
  have ih:=Ziv (bs:=bs) (zs:=zs) hl hN hv h j (by omega)
  have hm:(ZaC ls v).getD j 0∈ZaC ls v:=by
   have:(ZaC ls v).getD j 0=(ZaC ls v)[j]'(by omega):=by simp [List.getD,List.getElem?_eq_getElem (show j<(ZaC ls v).length by omega)]
   rw [this];exact List.getElem_mem _
  have ha:=Zhm hm;refine ih.put ?_ (by simp [Zb4])
  obtain⟨q,hq⟩:∃ q,q=(ZaC ls v).getD j 0:=⟨_,rfl⟩;rw [<-hq] at ha |-;have hn:=ZnU (bs:=bs) (zs:=zs) hl v q hN;exact Zo4 hv ha hn
theorem ZjF {n:Int}{ls:List Lk}{bs zs:List Bool}{N:Nat}(hl:∀ l∈ls,ZbG n l=true)(hN:N<=6):∀ k,k<=6->IdOwn (3*k) (idA ls bs zs N k)
 | 0,_ => { asc:=List.Pairwise.nil,ok:=fun r hr=>by simp [idA] at hr,own:=by simp [cntR,idA],his:=fun u=>by simp [cntR,idA] }
 | k+1,hk=>by
  have ih:=ZjF (bs:=bs) (zs:=zs) hl hN k (by omega)
  have hal:=ZcJ ls ((k:Int)+1);unfold idA
  split
  ·exact (Ziv hl hN (by omega) ih _ (Nat.le_refl _)).more (by omega)
  ·exact ih.more (by omega)
theorem ZjG {n:Int}{ts:List Th}{zs:List Bool}{xs:List RecD}{c:Nat}(hn:n<=6)(ht:∀ t∈ts,Zd4 n t=true)(h:IdOwn c xs):∀ k,IdOwn (c+k) (idB ts zs xs k)
 | 0=>h
 | k+1=>by
  have ih:=ZjG (zs:=zs) hn ht h k;unfold idB
  split
  ·rename_i t hk
   split
   ·refine ih.put ?_ (by simp [ZbV])
    have h1:=ht t (List.mem_of_getElem? hk);simp only [Zd4,inB,Bool.and_eq_true,decide_eq_true_eq] at h1
    exact Zov ⟨h1.1.2.1,by omega⟩ h1.1.1 h1.2
   ·exact ih.more (by omega)
  ·exact ih.more (by omega)
theorem ZnJ {ls:List Lk}{ts:List Th}{bs zs:List Bool}{N:Nat}(hok:Za2 ⟨(N:Int),ls,ts⟩=true):IdOk N (Zc4 ls ts bs zs N):=by
 simp only [Za2,Bool.and_eq_true] at hok
 obtain⟨⟨h1,h2⟩,h3⟩:=hok;have hN:N<=6:=by simp only [inB,Bool.and_eq_true,decide_eq_true_eq] at h1;omega
 have hl:=ZoK h2;have ht:=ZkC h3;have htl:ts.length<=4:=by
  unfold Zdf at h3;simp only [Bool.and_eq_true,decide_eq_true_eq] at h3
  exact h3.1.1
 have hA:=ZjF (bs:=bs) (zs:=zs) hl hN N hN;have hB:=ZjG (zs:=zs) (by omega) ht hA ts.length
 unfold Zc4;refine ZoI hN ⟨hB.asc,hB.ok,?_,fun u=>by rw [hB.his u];omega⟩ 3
 have:=hB.own;omega
theorem ZjH {ls:List Lk}{ts:List Th}{bs zs:List Bool}{N:Nat}(hok:Za2 ⟨(N:Int),ls,ts⟩=true):ZaE (Zc4 ls ts bs zs N)=true:=Zk4 (ZnJ hok)
end Go.Proofs.YtgdgkgmjpnbbcaaGreat
