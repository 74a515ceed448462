/-
  Parts.
-/
import Derived.Test.YtikloccefmofdaaGreatFi26
namespace Go.Proofs.YtikloccefmofdaaGreat
open Go.RowKit
set_option linter.unusedSimpArgs false
set_option linter.unusedVariables false
set_option maxRecDepth 100000
set_option maxHeartbeats 8000000
variable {far:Bool}{c key:Int}{ws:List WP}{q:RtD}{S:WayD->Prop}
def Zcx (far:Bool)(f c:Int):Int:=if far then 4000000000000+f*1000000+c else 3000000000000+c
structure ThIn (key:Int) (far:Bool) (q:RtD):Prop where
 thing:q.thing=true
 to:q.to=key
 kind:q.kind=if far then 4 else 3
 cost:0<=q.cost/\q.cost<=61000
 far:0<=q.far/\q.far<=1000/\(far=false->q.far=0)
def zeroT (key:Int):RtD:=⟨true,key,3,0,0,[]⟩
def ThSt (key:Int)(far:Bool)(F:Bool)(q:RtD)(S:WayD->Prop):Prop:=
 if F then ThIn key far q/\ZaN key S (some ⟨key,Zcx far q.far q.cost,q.hops⟩) else q=zeroT key/\ZaN key S none
theorem ThIn.rt (h:ThIn key far q):rtOf ⟨key,Zcx far q.far q.cost,q.hops⟩=q:=by
 obtain⟨h1,h2,h3,h4,h5⟩:=h;obtain⟨th,to,kind,cost,fa,hops⟩:=q;simp only at h1 h2 h3 h4 h5;subst h1;subst h2;subst h3;unfold rtOf Zcx;cases far
 ·have h6:fa=0:=h5.2.2 rfl;subst h6;simp only [Bool.false_eq_true,if_false];rw [if_pos (by omega)];congr 1;omega
 ·simp only [if_true];rw [if_neg (by omega)];congr 1 <;> omega
theorem ZmF {f f' c':Int}(h0:0<=c)(h1:c<=61000)(h0':0<=c')(h1':c'<=61000)(hf:far=false->f=0)(hf':far=false->f'=0):Zcx far f c<Zcx far f' c'↔f<f'\/(f=f'/\c<c'):=by
 unfold Zcx;cases far
 ·have:=hf rfl;have:=hf' rfl;simp only [Bool.false_eq_true,if_false];omega
 ·simp only [if_true];omega
theorem ThSt.less {F:Bool}{m:Int}{l:List Int}(h:ThSt key far F q S)(hS:∀ w,S w->Hop6 w.hops)(hl:F=true->m<q.far\/(m=q.far/\c<q.cost))
  (hm:0<=m/\m<=1000/\(far=false->m=0)) (hc:0<=c/\c<=61000) (ha:l.Pairwise (· < ·)) (h6:Hop6 l):
  ThSt key far true ⟨true,key,if far then 4 else 3,c,m,l⟩ (fun x=>S x\/x=⟨key,Zcx far m c,l⟩):=by
 unfold ThSt at h |-;rw [if_pos rfl];refine⟨⟨rfl,rfl,rfl,hc,hm⟩,?_⟩;cases F
 ·rw [if_neg (by simp)] at h;exact h.2.add ZhE hS (w:=⟨key,Zcx far m c,l⟩) rfl ha h6
 ·rw [if_pos rfl] at h;obtain⟨hq,hb⟩:=h;have h1:=hb.add ZhE hS (w:=⟨key,Zcx far m c,l⟩) rfl ha h6;have h2:Zcx far m c<Zcx far q.far q.cost:=(ZmF hc.1 hc.2 hq.cost.1 hq.cost.2 hm.2.2 hq.far.2.2).2 (hl rfl);have e:togD ⟨key,Zcx far q.far q.cost,q.hops⟩ ⟨key,Zcx far m c,l⟩=⟨key,Zcx far m c,l⟩:=by
   unfold togD Zbr;rw [if_neg (by simp;omega),if_pos (by simpa using h2)]
  have h3:ZfI togD (some ⟨key,Zcx far q.far q.cost,q.hops⟩) (some ⟨key,Zcx far m c,l⟩)=some ⟨key,Zcx far m c,l⟩:=by unfold ZfI;simp only [];rw [e]
  rw [h3] at h1;exact h1
theorem ThSt.worse {m:Int}{l:List Int}(h:ThSt key far true q S)(hS:∀ w,S w->Hop6 w.hops)(hl:¬(m<q.far\/(m=q.far/\c<q.cost)))(hn:¬(m=q.far/\c=q.cost))
  (hm:0<=m/\m<=1000/\(far=false->m=0)) (hc:0<=c/\c<=61000) (ha:l.Pairwise (· < ·)) (h6:Hop6 l):
  ThSt key far true q (fun x=>S x\/x=⟨key,Zcx far m c,l⟩):=by
 unfold ThSt at h |-;rw [if_pos rfl] at h |-;obtain⟨hq,hb⟩:=h;refine⟨hq,?_⟩;have h1:=hb.add ZhE hS (w:=⟨key,Zcx far m c,l⟩) rfl ha h6;have h2:Zcx far q.far q.cost<Zcx far m c:=(ZmF hq.cost.1 hq.cost.2 hc.1 hc.2 hq.far.2.2 hm.2.2).2 (by omega);have e:togD ⟨key,Zcx far q.far q.cost,q.hops⟩ ⟨key,Zcx far m c,l⟩=⟨key,Zcx far q.far q.cost,q.hops⟩:=by
  unfold togD Zbr;rw [if_pos (by simpa using h2)]
 have h3:ZfI togD (some ⟨key,Zcx far q.far q.cost,q.hops⟩) (some ⟨key,Zcx far m c,l⟩)=some ⟨key,Zcx far q.far q.cost,q.hops⟩:=by unfold ZfI;simp only [];rw [e]
 rw [h3] at h1;exact h1
theorem ThSt.congr {F:Bool}{T:WayD->Prop}(h:ThSt key far F q S)(e:∀ d,S d↔T d):ThSt key far F q T:=by
 have:S=T:=funext fun w=>propext (e w);rw [<-this];exact h
theorem Zep (x:RtD)(a:Option Addr)(n c:Nat):∀ u∈encQ (x,.slice a n c),u.oneCell'=true:=by
 intro u hu;simp only [encQ,YAb,List.not_mem_nil,or_false] at hu;rcases hu with rfl | rfl | rfl | rfl | rfl | rfl <;> rfl
def ZhM (kind:Int)(p:WP):QP:=(⟨false,p.1.to,kind,p.1.cost,0,p.1.hops⟩,p.2)
def Zbc (kind src:Int)(ws:List WP):List QP:=(ws.filter (fun p=>p.1.to != src)).map (ZhM kind)
theorem Zie (kind src:Int)(ws:List WP):Za7 (Zbc kind src ws)=ZfM kind src (Zaj ws):=by
 unfold Za7 Zbc ZfM Zaj;rw [List.filter_map,List.map_map,List.map_map];rfl
theorem Zig (kind src:Int)(ws:List WP):(Zbc kind src ws).length<=ws.length:=by
 unfold Zbc;rw [List.length_map];exact List.length_filter_le _ _
theorem Zns {kind src:Int}{k:Nat}{p:WP}(h:ws[k]? = some p)(hn:p.1.to≠src):Zbc kind src (ws.take (k+1))=Zbc kind src (ws.take k)++[ZhM kind p]:=by
 obtain⟨hk,e⟩:=YAD.1 h;unfold Zbc;rw [YAI hk,e,List.filter_append,YAf];simp [hn]
theorem Zo0 {kind src:Int}{k:Nat}{p:WP}(h:ws[k]? = some p)(hn:p.1.to=src):Zbc kind src (ws.take (k+1))=Zbc kind src (ws.take k):=by
 obtain⟨hk,e⟩:=YAD.1 h;unfold Zbc;rw [YAI hk,e,List.filter_append,YAf];simp [hn]
theorem Zif {W:World}{lo hi:Nat}{v:Value}(h:WaysOwn W lo hi v ws)(kind src:Int):∀ q∈Zbc kind src ws,Zbv W lo hi q:=by
 intro q hq;unfold Zbc at hq;obtain⟨p,hp,rfl⟩:=YAR.1 hq;exact h.nears p (YAP.1 hp).1
theorem Zgu {W:World}{lo hi:Nat}{v:Value}(h:WaysOwn W lo hi v ws)(kind src:Int):(Zbc kind src ws).Pairwise ZdX:=by
 unfold Zbc;rw [YAm];exact (h.apart.sublist (List.filter_sublist)).imp (fun h=>h)
theorem Zh9 (v:Value)(ws:List WP)(lo hi:Nat)(kind src:Int)(w:World)(hv:WaysOwn w lo hi v ws)(hhi:hi<=w.heap.size)(hn:ws.length<=1000):
  Calls Tryz.prog 66 #[.int .i64 kind,v,.int .i64 src] w fun e w'=>∃ x,e=.returned x/\w'.ownsRow w.heap.size 42 6 x (Zbc kind src ws).length (flat encQ (Zbc kind src ws))/\Below w.heap.size w w':=by
 obtain⟨a1,c1,rfl⟩:=Zac hv.row;have HV:=hide hv;clear hv
 go_enter Tryz.func66,Tryz.ntmps66
 go_wp2
 go_loopw [12,7] (fun i o wr=>∃ (k:Nat) (x:Value) (qs:List QP),k<=ws.length/\i=.int .i64 (k:Int)/\o=x/\Hid (qs=Zbc kind src (ws.take k))/\qs.length<=k/\wr.ownsRow w.heap.size 42 6 x qs.length (flat encQ qs)/\Below w.heap.size w wr) (fun i _ _=>ws.length-(intOf i).toNat)
 case atStart=>exact ⟨0,_,[],by omega,rfl,rfl,hide (by simp [Zbc]),by simp,YAZ _ _ _ _,YAC _ _⟩
 case round=>
  obtain⟨k,x,qs,hk,rfl,rfl,HQ,hql,hown,hnx⟩:=hrel;obtain⟨xa,xc,rfl⟩:=Zac hown;have hsz:=hnx.size;by_cases hlt:k<ws.length
  ·obtain ⟨p,hp⟩:∃ p,ws[k]? = some p:=⟨ws[k],YAA hlt⟩;obtain⟨bb,off,cp,hve,hbb,c0,c1,c2,_⟩:=HV.out.at.cells k p hp;cases hve;have hbw:bb<w.heap.size:=by omega
   obtain⟨pa,pc,hpn⟩:=Zac (HV.out.nears p (YAG hp)).1;rw [hpn] at c2;replace c0:=(hnx.cell hbw).trans c0;replace c1:=(hnx.cell hbw).trans c1;replace c2:=(hnx.cell hbw).trans c2;have hki:(0:Int)<=(k:Int):=by omega
   have hkj:(k:Int)<(ws.length:Int):=by omega
   have HP:=hide hp;have HPN:=hide hpn;have BA:Below wr.heap.size wr (wr.alloc (.cells #[.int .i64 p.1.to,.int .i64 p.1.cost,.slice pa p.1.hops.length pc] 108)):=(YAC _ _).alloc (YA _) _;by_cases ht:p.1.to=src
   ·have hd:(p.1.to != src)=false:=by simpa using ht
    have HN:=hide (show qs=Zbc kind src (ws.take (k+1)) from HQ.out.trans (Zo0 HP.out ht).symm);have N1:=hide (Zad hown BA (YA _));have N2:=hide (hnx.trans (BA.mono hsz));clear hp hpn hown hnx BA ht HQ HP HPN;go_wp2;go_roundw
    case rel=>exact ⟨k+1,_,qs,by omega,by go_num,rfl,HN,by omega,N1.out,N2.out⟩
    case measure=>simp [intOf];omega
   ·have hd:(p.1.to != src)=true:=by simpa using ht
    have HN:=hide (show qs++[ZhM kind (p.1,.slice pa p.1.hops.length pc)]=Zbc kind src (ws.take (k+1)) from by
     rw [Zns HP.out ht,HQ.out, <-HPN.out])
    have hs1:(wr.alloc (.cells #[.int .i64 p.1.to,.int .i64 p.1.cost,.slice pa p.1.hops.length pc] 108)).heap.size=wr.heap.size+1:=by simp
    have HS1:=hide hs1;have B2:=hide (hnx.trans ((BA.trans (((YAC (wr.alloc (.cells #[.int .i64 p.1.to,.int .i64 p.1.cost,.slice pa p.1.hops.length pc] 108)).heap.size (wr.alloc (.cells #[.int .i64 p.1.to,.int .i64 p.1.cost,.slice pa p.1.hops.length pc] 108))).alloc (YA _) (.cells (encQ (ZhM kind (p.1,.slice pa p.1.hops.length pc))).toArray 42)).mono BA.size)).mono hsz));have OW:=hide ((hown.alloc (.cells #[.int .i64 p.1.to,.int .i64 p.1.cost,.slice pa p.1.hops.length pc] 108)).alloc (.cells (encQ (ZhM kind (p.1,.slice pa p.1.hops.length pc))).toArray 42));have HOB:=hide (fun j (hj:(Value.slice xa qs.length xc).ownBlock=some j)=>(hown.lt j hj).1);clear hp hpn hown hnx BA ht HQ HP HPN hs1
    go_wp2_with (first
     | (at_builtin;refine ZaZ Zcg (by omega) (by omega) _ rfl _ _ 38 rfl w.heap.size 42 Tryz.underlying38 (.agg (rtC Zf3 (.slice none 0 0))) rfl Tryz.infoRoute _ qs (ZhM kind (p.1,.slice pa p.1.hops.length pc)) (Zep _ _ _ _) rfl OW.out ⟨wr.heap.size+1,0,none⟩ 1 rfl (fun j u hj=>by
       have h:=Zan (w:=(wr.alloc (.cells #[.int .i64 p.1.to,.int .i64 p.1.cost,.slice pa p.1.hops.length pc] 108))) (cs:=encQ (ZhM kind (p.1,.slice pa p.1.hops.length pc))) (t:=42) j u hj;rw [HS1.out] at h;exact h) (by omega) (by simp;omega) ?_))
    intro v' w6 hown' hgrow hat;have N1:=hide (show w6.ownsRow w.heap.size 42 6 v' (qs++[ZhM kind (p.1,.slice pa p.1.hops.length pc)]).length (flat encQ (qs++[ZhM kind (p.1,.slice pa p.1.hops.length pc)])) by simpa using hown');have N2:=hide (B2.out.grown hgrow (by have:=B2.out.size;omega) HOB.out);obtain⟨va,vc,rfl⟩:=Zac hown';clear hown' hgrow hat OW HOB B2 HS1;go_wp2;go_roundw
    case rel=>exact ⟨k+1,_,qs++[ZhM kind (p.1,.slice pa p.1.hops.length pc)],by omega,by go_num,rfl,HN,by simp;omega,N1.out,N2.out⟩
    case measure=>simp [intOf];omega
  ·have hkn:¬(k:Int)<(ws.length:Int):=by omega
   have HE:=hide (show qs=Zbc kind src ws from by rw [HQ.out,YAL (by omega)]);have HO:=hide hown;have HN:=hide hnx;clear hown hnx HQ;go_wp2;go_ret;rw [<-HE.out];exact⟨_,rfl,HO.out,HN.out⟩
end Go.Proofs.YtikloccefmofdaaGreat
