/-
  Parts.
-/
import Derived.Test.YtdhnddfnckgbjaaGreatZi23
namespace Go.Proofs.YtdhnddfnckgbjaaGreat
open Go.RowKit

set_option linter.unusedSimpArgs false

open Classical in
noncomputable def tolD (xs:List RecD) (al:List Int) (src area:Int):List RecD:=if h:∃ ds,ZcH xs al src area ds then Classical.choose h else []

theorem ZcH.eq {xs:List RecD}{al:List Int}{src area:Int}{ds:List RecD}(h:ZcH xs al src area ds):ds=tolD xs al src area:=by
 unfold tolD;rw [dif_pos ⟨ds,h⟩];exact h.unique (Classical.choose_spec (⟨ds,h⟩:∃ ds,ZcH xs al src area ds))

noncomputable def Zbd (xs:List RecD) (al:List Int) (src:Int) (bl:List Int):List RecD:=bl.flatMap (fun a=>tolD xs al src a)

theorem ZhW {xs:List RecD}{al bl:List Int}{src a:Int}{k:Nat}(h:bl[k]? = some a):Zbd xs al src (bl.take (k+1))=Zbd xs al src (bl.take k)++tolD xs al src a:=by
 obtain⟨hk,e⟩:=YAD.1 h;unfold Zbd;rw [YAJ hk,e,List.flatMap_append];simp

def ZbW (node:Int)(r:RecD):Bool:=r.kind != 2||r.owner != node

noncomputable def beyD (xs:List RecD) (al:List Int) (node:Int):List RecD:=ZdT (xs.filter (ZbW node)) (Zbd xs al node al)

theorem RecsOwn.join {W Wa W2:World}{lo:Nat}{v v' u:Value}{qs bs:List RP}(h:RecsOwn W lo W.heap.size v qs)(hb:Below W.heap.size W Wa)(hlo:lo<=W.heap.size)(hu:RecsOwn Wa W.heap.size Wa.heap.size u bs)
  (row:W2.ownsRow lo 132 8 v' (qs++bs).length (flat encP (qs++bs))) (hg:Wa.grownBy W2 v.ownBlock):RecsOwn W2 lo W2.heap.size v' (qs++bs) where
 row:=row
 top:=fun k hk=>(row.lt k hk).2
 apart:=by
  rw [YAP];refine⟨h.apart,hu.apart,fun p hp q hq k hk he=>?_⟩;have h1:=(h.nears p hp).2 k hk;have h2:=((hu.nears q hq).1.lt k he).1;omega
 nears:=by
  have rowa:=Zad h.row hb (YA _);have key:∀ q,ZaE Wa lo Wa.heap.size q->ZaE W2 lo W2.heap.size q:=fun q hq=>
   ⟨Zai hq.1 (fun j hj=>hg.block j (hq.2 j hj) (Zf2 hq rowa j hj)),fun k hk=>YAC (hq.2 k hk) hg.size⟩
  intro q hq;rcases YAH.1 hq with h1 | h1
  ·exact key q (((h.nears q h1).keep (W':=Wa) (fun j _ h2 _=>hb.block j h2)).wide (YA _) hb.size)
  ·exact key q ((hu.nears q h1).wide hlo (YA _))
end Go.Proofs.YtdhnddfnckgbjaaGreat
namespace Go.Proofs.YtdhnddfnckgbjaaGreat
open Go.RowKit
set_option linter.unusedSimpArgs false
set_option linter.unusedVariables false
set_option maxRecDepth 100000
set_option maxHeartbeats 8000000
variable {a n:Int}{es:List BE}{bs zs:List Bool}{al l:List Int}{ls:List Lk}{b0 qs:List QP}{xs:List RecD}{ts:List TnD}{B N cap clk g k lo m:Nat}{b q:QP}{u v x:Value}{W W' Wa w2:World}

theorem ZbK (h0 : -1000000000000000<=n)(h1:n<=1000000000000000):i64B n:=⟨by omega,by omega⟩
theorem Zi5 (h:Hop6 l):∀ x∈l,i64B x:=fun x hx=>by
 have:=h x hx;exact ZbK (by omega) (by omega)
theorem Zma {border:Bool}{src:Int}{l:List RtD}(h:ZbZ xs al border src l)(hs:ZaN xs=true):∀ r∈l,RtWf r/\r.hops.length<=6:=by
 obtain⟨ds,es,ts,h1,h2,h3,rfl⟩:=h;have g1:=h1.good (fun to d h=>ZaL h);have g2:=h2.good (fun to d h=>ZaU h);have g3:=h3.goodT (fun to d h=>Zb5 hs g1 g2 h);have hw:∀ (d:WayD) (k:Int),GoodW d->RtWf (⟨false,d.to,k,d.cost,0,d.hops⟩:RtD)/\d.hops.length<=6:=fun d k g=>by
  have n1:=g.node;have n2:=g.cost;exact⟨⟨ZbK (by show _<=d.to;omega) (by show d.to<=_;omega),ZbK (by show _<=d.cost;omega) (by show d.cost<=_;omega),ZbK (by show _<=(0:Int);omega) (by show (0:Int)<=_;omega),Zi5 g.hop6⟩,g.len⟩
 intro r hr;rcases YAH.1 hr with h | h
 ·rcases YAH.1 h with h | h
  ·obtain ⟨d,hd,_,rfl⟩:=ZdO h;exact hw d 1 (g1 d hd)
  ·obtain ⟨d,hd,_,rfl⟩:=ZdO h;exact hw d 2 (g2 d hd)
 ·obtain ⟨d,hd,rfl⟩:=YAV.1 h;have g:=g3 d hd;have n1:=g.node;have n2:=g.rank;unfold rtOf
  split
  ·refine ⟨⟨ZbK (by show _<=d.to;omega) (by show d.to<=_;omega),ZbK ?_ ?_,ZbK (by show _<=(0:Int);omega) (by show (0:Int)<=_;omega),Zi5 g.hop6⟩,g.len⟩
   ·show _<=d.cost-3000000000000;rcases n2 with h | ⟨c,k,_,_,_,_,h⟩ <;> omega
   ·show d.cost-3000000000000<=_;rcases n2 with h | ⟨c,k,_,_,_,_,h⟩ <;> omega
  ·refine ⟨⟨ZbK (by show _<=d.to;omega) (by show d.to<=_;omega),ZbK ?_ ?_,ZbK ?_ ?_,Zi5 g.hop6⟩,g.len⟩
   ·show _<=(d.cost-4000000000000)%1000000;omega
   ·show (d.cost-4000000000000)%1000000<=_;omega
   ·show _<=(d.cost-4000000000000) / 1000000;rcases n2 with h | ⟨c,k,_,_,_,_,h⟩ <;> omega
   ·show (d.cost-4000000000000) / 1000000<=_;rcases n2 with h | ⟨c,k,_,_,_,_,h⟩ <;> omega
theorem ZiA :∀ (es:List BE),(∀ x∈es,∃ a n c,x.2.1.2.2=.slice a n c)->∃ eb:List BS,eb.map entB=es
 | [],_=>⟨[],rfl⟩
 | x::es,h=>by
  obtain⟨eb,he⟩:=ZiA es (fun y hy=>h y (YAe _ hy));obtain⟨a,n,c,hx⟩:=h x (by simp);obtain⟨b,⟨pl,l,hv⟩,v⟩:=x;simp only at hx;subst hx;exact⟨(b,(pl,l,a,n,c),v)::eb,by rw [List.map_cons,he];rfl⟩
theorem Zmx (n:Int)(st:List (Int × LnD))(k:Nat)(t:TnD):(ZdJ n st k t).length<=st.length+1:=by
 unfold ZdJ
 split
 ·exact YAG (List.length_filter_le _ _) (by omega)
 ·split <;> simp
theorem ZiM (n:Int):∀ (ts:List TnD) (st:List (Int × LnD)) (k:Nat),(Zbm n st k ts).length<=st.length+ts.length
 | [],st,k=>by simp [Zbm]
 | t::ts,st,k=>by
  have h1:=ZiM n ts (ZdJ n st k t) (k+1);have h2:=Zmx n st k t;simp only [Zbm,YAd];omega
theorem ZiL :∀ (ts:List TnD) (st:List (Int × LnD)) (k:Nat),ZaP (ZaV st)->st.Pairwise (fun a b=>a.1<b.1)->(∀ p∈st,p.1<n+(k:Int))->(Zbm n st k ts).Pairwise (fun a b=>a.1<b.1)
 | [],_,_,_,h,_=>h
 | t::ts,st,k,hk,h,hb=>by
  have h1:=ZmL t hk h hb;exact ZiL ts _ _ (Zhb hk) h1.1 h1.2
theorem Zhc {st:List (Int × LnD)}{t:TnD}(h:ts[k]? = some t):Zbm n st 0 (ts.take (k+1))=ZdJ n (Zbm n st 0 (ts.take k)) k t:=by
 obtain⟨hk,e⟩:=YAD.1 h;rw [YAJ hk,Zdi,e];simp only [Zbm];congr 1;simp [Nat.min_eq_left (Nat.le_of_lt hk)]
theorem Zgb {b0 size:Nat}{e:TypeId}{r:Value}{n:Nat}{xs:List Value}{ents:Array MapEntry}{c:Nat}(hm:W.heap[m]? = some (.map ents c))(hr:W.ownsRow b0 e size r n xs):∀ j,r.ownBlock=some j->j≠m:=by
 intro j hj e9;subst e9;rcases hr.2 with ⟨e1,_⟩ | ⟨g2,cap,cur,e1,_,hh2,_⟩
 ·rw [e1] at hj;cases hj
 ·rw [e1] at hj;simp [Value.ownBlock] at hj;subst hj;rw [hm] at hh2;cases hh2
structure ApAt (W:World) (b lo m:Nat) (n:Int) (st0:List (Int × LnD)) (ts:List TnD) (k:Nat) (es:List BE) (clk:Nat):Prop where
 lg:LgAt W b W.heap.size m es clk
 st:stG es=Zbm n st0 0 (ts.take k)
 hop:∀ x∈es,W.ownsRow lo 3 1 x.2.1.2.2 x.2.1.2.1.hops.length (flat intE x.2.1.2.1.hops)/\x.2.1.2.1.hops.length<=1048576
theorem ApAt.below {b:Nat}{st0:List (Int × LnD)}(h:ApAt W b lo m n st0 ts k es clk)(hb:Below W.heap.size W W'):ApAt W' b lo m n st0 ts k es clk:=
 ⟨(h.lg.below hb (YA _)).wide hb.size,h.st,fun x hx=>⟨Zad (h.hop x hx).1 hb (YA _),(h.hop x hx).2⟩⟩
theorem ApAt.gone {b:Nat}{st0:List (Int × LnD)}(h:ApAt W b lo m n st0 ts k es clk)(hk0:ZaP (ZaV st0)){x:LnD}(ht:ts[k]? = some ⟨true,x⟩)
  (hl:LgAt W' b W.heap.size m (delL es x.thing x.to) clk) (hg:W.grownBy W' (some m)):ApAt W' b lo m n st0 ts (k+1) (delL es x.thing x.to) clk:=by
 refine⟨hl.wide hg.size,?_,fun y hy=>?_⟩
 ·rw [Zhc ht, <-h.st,ZoA (by rw [h.st];exact ZcC _ _ _ hk0)]
 ·have h1:=h.hop y ((Zfr es _ _).subset hy);exact⟨Zai h1.1 (fun j e=>hg.block j (h1.1.lt j e).2 (fun e9=>by cases e9;exact Zgb h.lg.map h1.1 _ e rfl)),h1.2⟩
theorem Znt {pl:Int}{p:JP}{x:BE}(h:x∈Zb1 es clk pl p v):x∈es\/x.2.1.2=p:=by
 unfold Zb1 at h;cases e:Zbe (ksG es) p.1.thing p.1.to with
 | none=>
  rw [e] at h;rcases YAH.1 h with h1 | h1
  ·exact .inl h1
  ·rw [YAl.1 h1];exact .inr rfl
 | some j=>
  rw [e] at h;simp only at h;cases e2:es[j]? with
  | none=>rw [e2] at h;exact .inl h
  | some y=>
   rw [e2] at h;rcases List.mem_or_eq_of_mem_set h with h1 | h1
   ·exact .inl h1
   ·rw [h1];exact .inr rfl
theorem ApAt.put {b:Nat}{st0:List (Int × LnD)}(h:ApAt W b lo m n st0 ts k es clk)(hk0:ZaP (ZaV st0)){x:LnD}{hv:Value}(ht:ts[k]? = some ⟨false,x⟩)
  (hr:W.ownsRow lo 3 1 hv x.hops.length (flat intE x.hops)) (hxl:x.hops.length<=1048576)
  (hl:LgAt W' b W'.heap.size m (Zb1 es clk (n+(k:Int)) (x,hv) v) (putC es clk (x,hv))) (hg:W.grownBy W' (some m)):ApAt W' b lo m n st0 ts (k+1) (Zb1 es clk (n+(k:Int)) (x,hv) v) (putC es clk (x,hv)):=by
 refine⟨hl,?_,fun y hy=>?_⟩
 ·rw [Zhc ht, <-h.st,ZoB (by rw [h.st];exact ZcC _ _ _ hk0)]
 ·have h1:W.ownsRow lo 3 1 y.2.1.2.2 y.2.1.2.1.hops.length (flat intE y.2.1.2.1.hops)/\y.2.1.2.1.hops.length<=1048576:=by
   rcases Znt hy with h2 | h2
   ·exact h.hop y h2
   ·rw [h2];exact⟨hr,hxl⟩
  exact⟨Zai h1.1 (fun j e=>hg.block j (h1.1.lt j e).2 (fun e9=>by cases e9;exact Zgb h.lg.map h1.1 _ e rfl)),h1.2⟩
theorem Zg0 (a:List LnD):(ZbI a).Pairwise (fun x y=>x.1<y.1)/\∀ p∈ZbI a,p.1<(a.length:Int)+((0:Nat):Int):=by
 unfold ZbI;constructor
 ·rw [YAY,YAf];intro i j hi hj hij;simp;exact hij
 ·intro p hp;obtain⟨q,hq,rfl⟩:=YAV.1 hp;have h1:=List.mem_zipIdx (x:=q.1) (i:=q.2) hq;simp only [];omega
theorem ZmH {b:Nat}{ps:List JP}{es:List (PlP × Value)}(ts:List TnD)(h:LpAt W b m ps ps.length es)(hop:∀ p∈ps,W.ownsRow lo 3 1 p.2 p.1.hops.length (flat intE p.1.hops)/\p.1.hops.length<=1048576):
  ApAt W b lo m (ps.length:Int) (ZbI (Zag ps)) ts 0 (ZdZ 0 es) es.length:=by
 have hpl:=h.pl;rw [YAX] at hpl;refine⟨h.lm.gen,?_,fun x hx=>?_⟩
 ·have e1:stG (ZdZ 0 es)=(es.map (·.1)).map (fun p=>(p.1,p.2.1)):=by
   have h9:((ZdZ 0 es).map (·.2)).map (fun q=>(q.1.1,q.1.2.1))=es.map (fun q=>(q.1.1,q.1.2.1)):=by rw [Zh3]
   rw [YAa] at h9;rw [YAa];exact h9
  rw [e1,hpl];unfold plJ ZbI Zag;simp only [Zbm,List.take_zero,List.zipIdx_map,YAa];rfl
 ·have h1:=(Zdr 0 es x hx).1;have h2:x.2.1∈plJ ps:=by rw [<-hpl];exact List.mem_map_of_mem h1
  unfold plJ at h2;obtain⟨q,hq,e⟩:=YAV.1 h2;have h3:x.2.1.2∈ps:=by
   rw [<-e];have:=List.mem_zipIdx (x:=q.1) (i:=q.2) hq;simp only [];rw [this.2.2];exact YAr _
  exact hop _ h3
def upB (zs:List Bool)(k:Nat):Bool:=(zs[k]?).getD false
def ZbR (ls:List Lk)(bs zs:List Bool)(v a:Int):Nat->List Nr
 | 0=>[]
 | k+1=>ZbR ls bs zs v a k++(if decide (0<ZdD ls bs v ((k:Int)+1) a)&&upB zs k then [⟨(k:Int)+1,ZdD ls bs v ((k:Int)+1) a⟩] else [])
theorem Zil (ls:List Lk)(bs zs:List Bool)(v a:Int):∀ k,(ZbR ls bs zs v a k).length<=k
 | 0=>by simp [ZbR]
 | k+1=>by
  have:=Zil ls bs zs v a k;unfold ZbR;rw [YAM]
  split <;> simp <;> omega
def ZbV (v a:Int)(near:List Nr):RecD:=⟨a,1,v,0,1,near,0,false⟩
def Zdk (t:Th):RecD:=⟨9,3,t.o,t.k,1,[],t.c,t.f⟩
def Zgs (ls:List Lk)(bs zs:List Bool)(N:Nat)(v:Int)(al:List Int)(xs:List RecD):Nat->List RecD
 | 0=>xs
 | j+1=>putD (Zgs ls bs zs N v al xs j) (ZbV v (al.getD j 0) (ZbR ls bs zs v (al.getD j 0) N))
def idA (ls:List Lk)(bs zs:List Bool)(N:Nat):Nat->List RecD
 | 0=>[]
 | k+1=>if upB zs k then Zgs ls bs zs N ((k:Int)+1) (ZaB ls ((k:Int)+1)) (idA ls bs zs N k) (ZaB ls ((k:Int)+1)).length else idA ls bs zs N k
def idB (ts:List Th)(zs:List Bool)(xs:List RecD):Nat->List RecD
 | 0=>xs
 | k+1=>match ts[k]? with
  | some t=>if upB zs (t.o-1).toNat then putD (idB ts zs xs k) (Zdk t) else idB ts zs xs k
  | none=>idB ts zs xs k
noncomputable def idC (ls:List Lk) (zs:List Bool) (xs:List RecD):Nat->List RecD
 | 0=>xs
 | k+1=>if upB zs k&&Zfm ls ((k:Int)+1) then beyD (idC ls zs xs k) (ZaB ls ((k:Int)+1)) ((k:Int)+1) else idC ls zs xs k
noncomputable def idR (ls:List Lk) (zs:List Bool) (N:Nat) (xs:List RecD):Nat->List RecD
 | 0=>xs
 | r+1=>idC ls zs (idR ls zs N xs r) N
noncomputable def Zet (ls:List Lk) (ts:List Th) (bs zs:List Bool) (N:Nat):List RecD:=idR ls zs N (idB ts zs (idA ls bs zs N N) ts.length) 3
theorem ZcQ (ls:List Lk)(v:Int):(ZaB ls v).length<=3:=by
 unfold ZaB;exact YAG (List.length_filter_le _ _) (by simp)
theorem Zfi {b:Bool}(h:zs[k]? = some b):upB zs k=b:=by simp [upB,h]
theorem Zkk {v:Int}{j:Nat}(h:al[j]? = some a):Zgs ls bs zs N v al xs (j+1)=putD (Zgs ls bs zs N v al xs j) (ZbV v a (ZbR ls bs zs v a N)):=by
 have:al.getD j 0=a:=by simp [List.getD,h]
 simp only [Zgs,this]
theorem ZlW {v q:Int}(hq:q=ZdD ls bs v ((k:Int)+1) a)(h0:0<q)(hz:zs[k]? = some true):ZbR ls bs zs v a (k+1)=ZbR ls bs zs v a k++[⟨(k:Int)+1,q⟩]:=by
 subst hq;simp only [ZbR,Zfi hz,YAi h0,Bool.and_self,if_true]
theorem Zj1 {v q:Int}{b:Bool}(hq:q=ZdD ls bs v ((k:Int)+1) a)(hz:zs[k]? = some b)(h0:¬0<q\/b=false):ZbR ls bs zs v a (k+1)=ZbR ls bs zs v a k:=by
 subst hq;simp only [ZbR,Zfi hz];rcases h0 with h | h
 ·simp [h]
 ·subst h;simp
theorem idA_up (hz:zs[k]? = some true):idA ls bs zs N (k+1)=Zgs ls bs zs N ((k:Int)+1) (ZaB ls ((k:Int)+1)) (idA ls bs zs N k) (ZaB ls ((k:Int)+1)).length:=by
 simp only [idA,Zfi hz,if_true]
theorem ZmY (hz:zs[k]? = some false):idA ls bs zs N (k+1)=idA ls bs zs N k:=by
 simp [idA,Zfi hz]
theorem idB_up {ts:List Th}{t:Th}(ht:ts[k]? = some t)(hm:t.o=(m:Int)+1)(hz:zs[m]? = some true):idB ts zs xs (k+1)=putD (idB ts zs xs k) (Zdk t):=by
 have:(t.o-1).toNat=m:=by omega
 simp only [idB,ht,this,Zfi hz,if_true]
theorem ZmZ {ts:List Th}{t:Th}(ht:ts[k]? = some t)(hm:t.o=(m:Int)+1)(hz:zs[m]? = some false):idB ts zs xs (k+1)=idB ts zs xs k:=by
 have:(t.o-1).toNat=m:=by omega
 simp [idB,ht,this,Zfi hz]
theorem Zog (hz:zs[k]? = some true)(hb:Zfm ls ((k:Int)+1)=true):idC ls zs xs (k+1)=beyD (idC ls zs xs k) (ZaB ls ((k:Int)+1)) ((k:Int)+1):=by
 simp [idC,Zfi hz,hb]
theorem ZnY {b:Bool}(hz:zs[k]? = some b)(hb:b=false\/Zfm ls ((k:Int)+1)=false):idC ls zs xs (k+1)=idC ls zs xs k:=by
 rcases hb with h | h
 ·subst h;simp [idC,Zfi hz]
 ·simp [idC,h]
theorem ZlX {hi:Nat}{r:RP}(h:ZaE W lo hi r):∀ u∈encP r,u.oneCell'=true:=by
 obtain⟨a,c,e⟩:=Zac h.1;obtain⟨x,v⟩:=r;simp only at e;subst e;exact Zci x a _ c
theorem ZnU {qs:List RP}{src area:Int}(h:ZcH xs al src area (fsts qs)):tot qs<=6:=by
 have ht:=h.tot;have:∀ l:List RP,(∀ r∈fsts l,r.near=[])->tot l<=l.length:=by
  intro l
  induction l with
  | nil=>intro _;simp [tot]
  | cons q l ih=>
   intro h;rw [Zcl,YAd];have h1:=h q.1 (by simp [fsts]);have h2:=ih (fun r hr=>h r (by simp only [fsts,List.map_cons,YAR] at hr |-;exact .inr hr));rw [h1];simp only [List.length_nil];omega
 have h1:=this qs ht.2;have h2:qs.length<=6:=by simpa [fsts] using ht.1
 omega
def ZcF (ps:List RP)(node:Int)(k:Nat):List RP:=(ps.take k).filter (fun p=>ZbW node p.1)
theorem ZlC (ps:List RP)(node:Int)(k:Nat):(ZcF ps node k).length<=k:=by
 unfold ZcF;exact YAG (List.length_filter_le _ _) (by rw [List.length_take];omega)
theorem Zmv (ps:List RP)(node:Int):tot (ZcF ps node ps.length)<=tot ps:=by
 unfold ZcF;rw [YAX];exact ZnT _ ps
theorem Zkq (ps:List RP)(node:Int):fsts (ZcF ps node ps.length)=(fsts ps).filter (ZbW node):=by
 unfold ZcF fsts;rw [YAX,List.filter_map];rfl
theorem Zm4 (v u:Value)(ps:List RP)(al:List Int)(hi:Nat)(node:Int)(w:World)(hv:RecsIn w hi v ps)(ha:Zal w u al hi)(hhi:hi<=w.heap.size)(hn:tot ps<=100000)(hal:al.length<=1000):
  Calls Tryz.prog 82 #[v,u,.int .i64 node] w fun e w'=>∃ x qs,e=.returned x/\fsts qs=beyD (fsts ps) al node/\RecsIn w' w'.heap.size x qs/\tot qs<=tot ps+6*al.length/\Below w.heap.size w w':=by
 have hnl:=ZcB ps;obtain⟨a1,c1,rfl⟩:=Zac hv.row;obtain⟨a2,c2,rfl⟩:=ha.shape;have LIT:=Zfz w w.heap.size (YA _);have BX:Below w.heap.size w (w.alloc (.cells #[] 132)):=(YAB _ _).alloc (YA _) _;obtain⟨w0,hw0⟩:∃ W,W=w.alloc (.cells #[] 132):=⟨_,rfl⟩;rw [<-hw0] at BX LIT;have HTL:=hide (fun (area:Int) W (hb:Below w.heap.size w W)=>Zmk (.slice a1 ps.length c1) (.slice a2 al.length c2) ps al hi node area W (hv.below hb hhi) (Zau.later ha hb hhi) (YAG hhi hb.size) (by omega) (by omega));have HV:=hide hv;have HA:=hide ha;have HLIT:=hide LIT;clear hv ha LIT
 go_enter Tryz.func82,Tryz.ntmps82
 go_wp2;rw [<-hw0];clear hw0
 go_loopw [8,7] (fun i o wr=>∃ (k:Nat) (x:Value) (qs:List RP),k<=al.length/\i=.int .i64 (k:Int)/\o=x/\RecsOwn wr w.heap.size wr.heap.size x qs/\Hid (fsts qs=Zbd (fsts ps) al node (al.take k))/\tot qs<=6*k/\Below w.heap.size w wr) (fun i _ _=>al.length-(intOf i).toNat)
 case atStart=>exact ⟨0,_,[],by omega,rfl,rfl,HLIT.out,hide (by simp [Zbd,fsts]),by simp [tot],BX⟩
 case round=>
  obtain⟨k,x,qs,hk,rfl,rfl,hown,HF,htq,hnx⟩:=hrel;clear HLIT BX;obtain⟨xa,xc,rfl⟩:=Zac hown.row;have hsz:=hnx.size;have hql:=ZcB qs;by_cases hlt:k<al.length
  ·obtain ⟨area,har⟩:∃ a,al[k]? = some a:=⟨al[k],YAA hlt⟩;obtain⟨b,off,cap',hve,hbb,c0⟩:=HA.out.cell k area har;cases hve;replace c0:=(hnx.cell (by show b<w.heap.size;omega)).trans c0;have hki:(0:Int)<=(k:Int):=by omega
   have hkj:(k:Int)<(al.length:Int):=by omega
   have HAR:=hide har;have HOW:=hide hown;clear har hown
   go_wp2_with fail
   refine (HTL.out area _ hnx).mono ?_;rintro e w2 ⟨y,bs,rfl,hbs,hob,b2⟩;obtain⟨ya,yc,rfl⟩:=Zac hob.row;have hb2:=b2.size;have htb:=ZnU hbs;have hbl:=ZcB bs;have HF2:=hide (show fsts (qs++bs)=Zbd (fsts ps) al node (al.take (k+1)) by
    rw [ZhW HAR.out, <-HF.out, <-hbs.eq];simp [fsts])
   have HOB:=hide hob;have HB2:=hide b2;have OW:=hide (Zad HOW.out.row b2 (YA _));clear hbs hob b2
   go_wp2_with (first
    | (at_builtin;refine ZiS (fun l=>ZcK Zb7 l) (by omega) (by omega) _ rfl _ _ 104 rfl w.heap.size 132 Tryz.underlying104 (.agg (recC Zb3 (.slice none 0 0))) rfl Tryz.infoRec _ qs rfl OW.out wr.heap.size _ bs (fun q hq=>ZlX (HOB.out.nears q hq)) rfl HOB.out.row (by omega) (by omega) ?_))
   intro v' w3 hown' hgrow;have N1:=hide (HOW.out.join HB2.out hsz HOB.out (by rw [YAM];exact hown') hgrow);have N2:=hide ((hnx.trans (HB2.out.mono hsz)).grown hgrow (by omega) (fun j hj=>(HOW.out.row.lt j hj).1));have ht2:tot (qs++bs)<=6*(k+1):=by rw [ZcY];omega
   obtain⟨va,vc,rfl⟩:=Zac hown';clear hown' hgrow OW HOB HOW HB2;go_wp2;go_roundw
   case rel=>exact ⟨k+1,_,qs++bs,by omega,by go_num,rfl,by simpa using N1.out,HF2,ht2,N2.out⟩
   case measure=>simp [intOf];omega
  ·have hkn:¬(k:Int)<(al.length:Int):=by omega
   have HFA:=hide (show fsts qs=Zbd (fsts ps) al node al by have h:=HF.out;rw [YAc (by omega)] at h;exact h);have HOW:=hide hown;have ht6:tot qs<=6*al.length:=by omega
   rename World=>wo
   have OL:(wo.alloc (.cells #[] 132)).ownsRow wo.heap.size 132 8 (.slice (some ⟨wo.heap.size,0,none⟩) 0 0) 0 (flat encP []):=YAU wo #[] 0 (YA _) (by unfold maxLen;omega) (by simp);have BL:Below wo.heap.size wo (wo.alloc (.cells #[] 132)):=(YAB _ _).alloc (YA _) _;obtain⟨w4,hw4⟩:∃ W,W=wo.alloc (.cells #[] 132):=⟨_,rfl⟩;rw [<-hw4] at OL BL;have HOL:=hide OL;clear hown HF OL HTL;go_wp2;rw [<-hw4];clear hw4
   go_loopw [10,9] (fun i o wr=>∃ (j:Nat) (x:Value),j<=ps.length/\i=.int .i64 (j:Int)/\o=x/\wr.ownsRow wo.heap.size 132 8 x (ZcF ps node j).length (flat encP (ZcF ps node j))/\Below wo.heap.size wo wr) (fun i _ _=>ps.length-(intOf i).toNat)
   case atStart=>exact ⟨0,_,by omega,rfl,rfl,HOL.out,BL⟩
   case round=>
    obtain⟨j,x,hj,rfl,rfl,hown,hnx2⟩:=hrel;clear HOL BL;obtain⟨ya,yc,rfl⟩:=Zac hown;have hsz2:=hnx2.size;have BW:Below w.heap.size w wr:=hnx.trans (hnx2.mono hsz);have hfl:=ZlC ps node j;have OW:=hide hown;clear hown;by_cases hjl:j<ps.length
    ·obtain ⟨p,hp⟩:∃ p,ps[j]? = some p:=⟨ps[j],YAA hjl⟩;obtain⟨bb,off,cap',hve,hbb,c0,c1,c2,c3,c4,c5,c6,c7,hnr⟩:=HV.out.at.cells j p hp;cases hve;obtain⟨pa,pc,hpn⟩:=ZaJ.shape hnr;rw [hpn] at c5;replace c0:=(BW.cell (YAC hbb hhi)).trans c0;replace c1:=(BW.cell (YAC hbb hhi)).trans c1;replace c2:=(BW.cell (YAC hbb hhi)).trans c2;replace c3:=(BW.cell (YAC hbb hhi)).trans c3;replace c4:=(BW.cell (YAC hbb hhi)).trans c4;replace c5:=(BW.cell (YAC hbb hhi)).trans c5;replace c6:=(BW.cell (YAC hbb hhi)).trans c6;replace c7:=(BW.cell (YAC hbb hhi)).trans c7;have HP:=hide hp;have HPN:=hide hpn;obtain⟨C,hC⟩:∃ C,C=ZcF ps node j:=⟨_,rfl⟩;rw [<-hC] at OW hfl |-;have HC:=hide hC;have hki:(0:Int)<=(j:Int):=by omega
     have hkj:(j:Int)<(ps.length:Int):=by omega
     clear hp hpn hnr hC;by_cases hK:p.1.kind=2
     ·have hdK:(p.1.kind != 2)=false:=by simpa using hK
      clear hK;by_cases hO:p.1.owner=node
      ·have hdO:(p.1.owner != node)=false:=by simpa using hO
       have HN:=hide (show wr.ownsRow wo.heap.size 132 8 (.slice ya C.length yc) (ZcF ps node (j+1)).length (flat encP (ZcF ps node (j+1))) by
        have e:ZcF ps node (j+1)=C:=by
         rw [HC.out];unfold ZcF;rw [Zdv (fun p=>ZbW node p.1) HP.out,show ZbW node p.1=false by simp [ZbW,hdK,hdO]];simp
        rw [e];exact OW.out)
       clear hO OW;go_wp2;go_roundw
       case rel=>exact ⟨j+1,_,by omega,by go_num,rfl,HN.out,hnx2⟩
       case measure=>simp [intOf];omega
      ·have hdO:(p.1.owner != node)=true:=by simpa using hO
       clear hO;have HST:=hide (show ZcF ps node (j+1)=C++[(p.1,.slice pa p.1.near.length pc)] by
        rw [HC.out];unfold ZcF;rw [Zdv (fun p=>ZbW node p.1) HP.out,show ZbW node p.1=true by simp [ZbW,hdO]];simp [<-HPN.out])
       go_wp2_with (first
        | (at_builtin;refine Zay Zb7 (by omega) (by omega) _ rfl _ _ 104 rfl wo.heap.size 132 Tryz.underlying104 (.agg (recC Zb3 (.slice none 0 0))) rfl Tryz.infoRec _ C (p.1,.slice pa p.1.near.length pc) (Zci _ _ _ _) rfl (OW.out.alloc _) ⟨wr.heap.size,0,none⟩ 1 rfl (Zak (cs:=encP (p.1,.slice pa p.1.near.length pc))) (by omega) (by simp;omega) ?_))
       intro v' w6 hown' hgrow;have N1:=hide (show w6.ownsRow wo.heap.size 132 8 v' (ZcF ps node (j+1)).length (flat encP (ZcF ps node (j+1))) by rw [HST.out];simpa using hown');have N2:=hide ((hnx2.alloc hsz2 _).grown hgrow (by simp;omega) (fun i hi=>(OW.out.lt i hi).1));obtain⟨va,vc,rfl⟩:=Zac hown';clear hown' hgrow OW HST;go_wp2;go_roundw
       case rel=>exact ⟨j+1,_,by omega,by go_num,rfl,N1.out,N2.out⟩
       case measure=>simp [intOf];omega
     ·have hdK:(p.1.kind != 2)=true:=by simpa using hK
      clear hK;have HST:=hide (show ZcF ps node (j+1)=C++[(p.1,.slice pa p.1.near.length pc)] by
       rw [HC.out];unfold ZcF;rw [Zdv (fun p=>ZbW node p.1) HP.out,show ZbW node p.1=true by simp [ZbW,hdK]];simp [<-HPN.out])
      go_wp2_with (first
       | (at_builtin;refine Zay Zb7 (by omega) (by omega) _ rfl _ _ 104 rfl wo.heap.size 132 Tryz.underlying104 (.agg (recC Zb3 (.slice none 0 0))) rfl Tryz.infoRec _ C (p.1,.slice pa p.1.near.length pc) (Zci _ _ _ _) rfl (OW.out.alloc _) ⟨wr.heap.size,0,none⟩ 1 rfl (Zak (cs:=encP (p.1,.slice pa p.1.near.length pc))) (by omega) (by simp;omega) ?_))
      intro v' w6 hown' hgrow;have N1:=hide (show w6.ownsRow wo.heap.size 132 8 v' (ZcF ps node (j+1)).length (flat encP (ZcF ps node (j+1))) by rw [HST.out];simpa using hown');have N2:=hide ((hnx2.alloc hsz2 _).grown hgrow (by simp;omega) (fun i hi=>(OW.out.lt i hi).1));obtain⟨va,vc,rfl⟩:=Zac hown';clear hown' hgrow OW HST;go_wp2;go_roundw
      case rel=>exact ⟨j+1,_,by omega,by go_num,rfl,N1.out,N2.out⟩
      case measure=>simp [intOf];omega
    ·have hjn:¬(j:Int)<(ps.length:Int):=by omega
     have hje:j=ps.length:=by omega
     obtain⟨C,hC⟩:∃ C,C=ZcF ps node j:=⟨_,rfl⟩;rw [<-hC] at OW hfl |-;have hCt:tot C<=tot ps:=by rw [hC,hje];exact Zmv ps node
     have HCF:=hide (show fsts C=(fsts ps).filter (ZbW node) by rw [hC,hje];exact Zkq ps node);have hCn:∀ p∈C,ZaE wr 0 wr.heap.size p:=fun p hp=>by
      have hm:p∈ps:=by rw [hC] at hp;exact List.mem_of_mem_take (YAT.1 hp).1
      exact ((HV.out.nears p hm).keep (W':=wr) (fun i _ h2 _=>BW.block i (by omega))).wide (YA _) (by omega)
     have HIN:RecsIn wr wr.heap.size (.slice ya C.length yc) C:=⟨Zaf OW.out (Nat.zero_le _),fun i hi=>(OW.out.lt i hi).2,hCn⟩;have HALL:RecsIn wr wr.heap.size (.slice xa qs.length xc) qs:=((HOW.out.below hnx2 (YA _)).wide (YA _) hsz2).in;have HWW:=hide (ZnV _ _ C qs wr.heap.size wr HIN HALL (YA _) (by omega));rw [HCF.out,HFA.out] at HWW;have HBW:=hide BW;clear hC hje hCn HIN HALL OW HOW HCF HFA BW
     go_wp2_with fail
     refine HWW.out.mono ?_;rintro e w7 ⟨y,rs,rfl,hf,hin,htt,b7⟩;obtain⟨yya,yyc,rfl⟩:=Zac hin.row;have HE:=hide (show fsts rs=beyD (fsts ps) al node from hf);have HI:=hide hin;have HB:=hide (HBW.out.trans (b7.mono HBW.out.size));have hq:tot rs<=tot ps+6*al.length:=by omega
     clear hf hin b7;go_wp2;go_ret
     first
      | exact ⟨_,rs,rfl,HE.out,HI.out,hq,HB.out⟩
      | exact ⟨_,rfl,rs,HE.out,HI.out,hq,HB.out⟩
theorem Ziv {base n sz j:Nat}{e:TypeId}{xs:List Value}(h:W.ownsRow base e sz (.slice (some ⟨g,0,none⟩) n cap) n xs)(hj:j<n*sz):(W.setCell ⟨g,j,none⟩ u).ownsRow base e sz (.slice (some ⟨g,0,none⟩) n cap) n (xs.set j u):=by
 rcases h.2 with ⟨e0,_⟩ | ⟨g',cap',cur,e0,hb,hg,hn,hm,hs,ht⟩
 ·cases e0
 ·injection e0 with e1 _ e3;injection e1 with e1;injection e1 with e1;subst e1;subst e3;refine⟨by rw [List.length_set];exact h.1,.inr ⟨g,cap,cur.setIfInBounds j u,rfl,hb,YAS W g j _ _ u hg,hn,hm,by simpa using hs,?_⟩⟩;rw [<-ht];apply List.ext_getElem?;intro i;rw [List.getElem?_take,List.getElem?_set,Array.toList_setIfInBounds,List.getElem?_set];have hcl:n*sz<=cur.size:=by rw [hs];exact Nat.mul_le_mul_right sz hn
  by_cases hi:i<n*sz
  ·rw [if_pos hi,List.getElem?_take,if_pos hi];by_cases hij:j=i
   ·subst hij;have h1:j<cur.toList.length:=by rw [Array.length_toList];omega
    have h2:j<(cur.toList.take (n*sz)).length:=by rw [List.length_take];omega
    rw [if_pos rfl,if_pos rfl,if_pos h1,if_pos h2]
   ·simp [hij]
  ·rw [if_neg hi,List.getElem?_take,if_neg hi];have:j≠i:=by omega
   simp [this]
theorem ZlF :(flat encQ (b0++[b])).set (b0.length*6+5) u=flat encQ (b0++[({ b.1 with hops:=l },u)]):=by
 rw [ZaQ,ZaQ,List.set_append_right _ _ (by rw [ZcK ZdL];omega),ZcK ZdL,show b0.length*6+5-b0.length*6=5 by omega];rfl
theorem Zf6 {lo2 hi n size2:Nat}{xs:List Value}(hq:Za0 W lo hi q)(hr:W.ownsRow lo2 57 size2 v n xs)(j:Nat)(hj:q.2.ownBlock=some j):some j≠v.ownBlock:=by
 intro e;rcases hr.2 with ⟨h0,_⟩ | ⟨g,cap,cur,hv,_,hh,_⟩
 ·rw [h0] at e;simp [Value.ownBlock] at e
 ·rw [hv] at e;simp [Value.ownBlock] at e;subst e;exact Zas hq.1 hh (by decide) hj.symm
theorem RtsOwn.push {W2:World}{v':Value}{p:QP}(h:RtsOwn W lo W.heap.size v qs)(hb:Below W.heap.size W Wa)(hp:Za0 Wa lo Wa.heap.size p)(hap:∀ q∈qs,Zdn q p)
  (row:W2.ownsRow lo 57 6 v' (qs++[p]).length (flat encQ (qs++[p]))) (hg:Wa.grownBy W2 v.ownBlock):RtsOwn W2 lo W2.heap.size v' (qs++[p]) where
 row:=row
 top:=fun k hk=>(row.lt k hk).2
 apart:=by
  rw [YAP];exact⟨h.apart,by simp,fun a ha b hb=>by (have:b=p:=by simpa using hb);subst this;exact hap a ha⟩
 nears:=by
  have rowa:=Zad h.row hb (YA _);have key:∀ q,Za0 Wa lo Wa.heap.size q->Za0 W2 lo W2.heap.size q:=fun q hq=>
   ⟨Zai hq.1 (fun j hj=>hg.block j (hq.2 j hj) (Zf6 hq rowa j hj)),fun k hk=>YAC (hq.2 k hk) hg.size⟩
  intro q hq;rcases YAH.1 hq with h1 | h1
  ·exact key q (((h.nears q h1).keep (W':=Wa) (fun j _ h2 _=>hb.block j h2)).wide (YA _) hb.size)
  ·have:q=p:=by simpa using h1
   subst this;exact key q hp
theorem RtsOwn.last {n:Nat}(h:RtsOwn W lo W.heap.size (.slice (some ⟨g,0,none⟩) n cap) (b0++[b]))(hn:(b0++[b]).length=n)(hb:Below W.heap.size W Wa)(hu:Wa.ownsRow W.heap.size 3 1 u l.length (flat intE l))(hlo:lo<=W.heap.size):
  RtsOwn (Wa.setCell ⟨g,b0.length*6+5,none⟩ u) lo (Wa.setCell ⟨g,b0.length*6+5,none⟩ u).heap.size (.slice (some ⟨g,0,none⟩) n cap) (b0++[({ b.1 with hops:=l },u)]):=by
 subst hn;have rowa:=Zad h.row hb (YA _);have hG:=Zaj Wa g (b0.length*6+5) u;have row:=Ziv (u:=u) (j:=b0.length*6+5) rowa (by simp;omega);rw [ZlF (l:=l)] at row;have hsz:(Wa.setCell ⟨g,b0.length*6+5,none⟩ u).heap.size=Wa.heap.size:=by simp
 have hlen:(b0++[({ b.1 with hops:=l },u)]:List QP).length=(b0++[b]).length:=by simp
 have key:∀ q,Za0 Wa lo Wa.heap.size q->Za0 (Wa.setCell ⟨g,b0.length*6+5,none⟩ u) lo (Wa.setCell ⟨g,b0.length*6+5,none⟩ u).heap.size q:=fun q hq=>
  ⟨Zai hq.1 (fun j hj=>hG.block j (hq.2 j hj) (by have:=Zf6 hq rowa j hj;simpa [Value.ownBlock] using this)),fun k hk=>by rw [hsz];exact hq.2 k hk⟩
 refine⟨by rw [hlen];exact row,fun k hk=>?_,fun q hq=>?_,?_⟩
 ·rw [hsz];exact (rowa.lt k hk).2
 ·rcases YAH.1 hq with h1 | h1
  ·exact key q (((h.nears q (YAH.2 (.inl h1))).keep (W':=Wa) (fun j _ h2 _=>hb.block j h2)).wide (YA _) hb.size)
  ·have:q=({ b.1 with hops:=l },u):=by simpa using h1
   subst this;exact key _ ⟨Zaf hu hlo,fun k hk=>(hu.lt k hk).2⟩
 ·have ha:=h.apart;rw [YAP] at ha |-;refine⟨ha.1,by simp,fun a hA c hC=>?_⟩;have:c=({ b.1 with hops:=l },u):=by simpa using hC
  subst this;intro k hk e;have h1:=(h.nears a (YAH.2 (.inl hA))).2 k hk;have h2:=(hu.lt k e).1;omega
structure BI (W:World) (B:Nat) (w2:World) (qs:List QP) (k:Nat) (x:Value) (bs:List QP):Prop where
 own:RtsOwn W B W.heap.size x bs
 new:∀ j,x.ownBlock=some j->w2.heap.size<=j
 best:ZeI (ZaY (qs.take k)) (ZaY bs)
 off:∀ b∈bs,OffR b.1
 ord:∀ b∈bs,∀ q∈qs.drop k,¬ordQ q.1 b.1<0
 apartR:∀ b∈bs,∀ q∈qs.drop k,Zdn b q
 below:Below w2.heap.size w2 W
theorem Zby {α:Type}{qs:List α}{q:α}(h:qs[k]? = some q):qs.drop k=q::qs.drop (k+1):=by
 obtain⟨hk,e⟩:=YAD.1 h;rw [YAp hk,e]
theorem ZeS (h:qs[k]? = some q):ZaY (qs.take (k+1))=ZaY (qs.take k)++[q.1]:=by
 obtain⟨hk,e⟩:=YAD.1 h;unfold ZaY;rw [YAJ hk,e];simp
theorem ZaO (a b:List QP):ZaY (a++b)=ZaY a++ZaY b:=by simp [ZaY]
theorem ZiC (hs:ZiO (ZaY qs))(h:qs[k]? = some q):∀ r∈qs.drop (k+1),¬ordQ r.1 q.1<0:=by
 unfold ZiO ZaY at hs;rw [YAY] at hs;have:=List.Pairwise.sublist (List.drop_sublist k qs) hs;rw [Zby h] at this;exact (YAh.1 this).1
theorem ZiQ (hs:qs.Pairwise Zdn)(h:qs[k]? = some q):∀ r∈qs.drop (k+1),Zdn q r:=by
 have:=List.Pairwise.sublist (List.drop_sublist k qs) hs;rw [Zby h] at this;exact (YAh.1 this).1
theorem BI.offT {bs:List QP}(_h:BI W B w2 qs k x bs)(hq:∀ q∈qs,OffR q.1):∀ y∈ZaY (qs.take k),OffR y:=by
 intro y hy;obtain⟨q,hq',rfl⟩:=YAV.1 hy;exact hq q (List.mem_of_mem_take hq')
theorem BI.lt (h:BI W B w2 qs k x (b0++[b]))(hq:∀ q∈qs,OffR q.1)(hk:qs[k]? = some q)(hne:b.1.to≠q.1.to):∀ c∈ZaY (b0++[b]),c.to<q.1.to:=by
 have hob:=h.off b (by simp);have hoq:=hq q (YAF hk);have h1:=h.ord b (by simp) q (by rw [Zby hk];simp);rw [hoq.lt hob] at h1;have hb:b.1.to<q.1.to:=by omega
 have hA:=h.best.1;rw [ZaO,YAW] at hA;unfold AscW at hA;rw [YAP] at hA;intro c hc;rw [ZaO] at hc;rcases YAH.1 hc with h2 | h2
 ·have:=hA.2.2 (wOf c) (List.mem_map_of_mem h2) (wOf b.1) (by simp [ZaY]);have h3:c.to<b.1.to:=this;omega
 ·have:c=b.1:=by simpa [ZaY] using h2
  subst this;exact hb
theorem BI.worse (h:BI W B w2 qs k x (b0++[b]))(hq:∀ q∈qs,OffR q.1)(hk:qs[k]? = some q)(ht:b.1.to=q.1.to)(hne:ordQ b.1 q.1≠0):ordQ b.1 q.1<0:=by
 have hob:=h.off b (by simp);have hoq:=hq q (YAF hk);have h1:=h.ord b (by simp) q (by rw [Zby hk];simp);rw [hoq.lt hob] at h1;rw [hob.lt hoq];have h2:¬(b.1.to=q.1.to/\(wOf b.1).cost=(wOf q.1).cost):=fun e=>hne ((hob.eq hoq).2 e);omega
theorem BI.push {W2:World}{bs:List QP}{x':Value}(h:BI W B w2 qs k x bs)(hq:∀ q∈qs,OffR q.1)(hs:ZiO (ZaY qs))(ha:qs.Pairwise Zdn)(hk:qs[k]? = some q)(hlt:∀ c∈ZaY bs,c.to<q.1.to)
  (hb:Below W.heap.size W Wa) (hp:Za0 Wa B Wa.heap.size q) (row:W2.ownsRow B 57 6 x' (bs++[q]).length (flat encQ (bs++[q]))) (hg:Wa.grownBy W2 x.ownBlock) (hat:∀ j,x'.ownBlock=some j->x.ownBlock=some j\/Wa.heap.size<=j):BI W2 B w2 qs (k+1) x' (bs++[q]) where
 own:=h.own.push hb hp (fun b hb'=>h.apartR b hb' q (by rw [Zby hk];simp)) row hg
 new:=fun j hj=>by
  rcases hat j hj with h1 | h1
  ·exact h.new j h1
  ·have:=h.below.size;have:=hb.size;omega
 best:=by
  rw [ZeS hk,ZaO];exact h.best.push (h.offT hq) (hq q (YAF hk)) hlt
 off:=fun b hb'=>by
  rcases YAH.1 hb' with h1 | h1
  ·exact h.off b h1
  ·have:b=q:=by simpa using h1
   subst this;exact hq b (YAF hk)
 ord:=fun b hb' r hr=>by
  rcases YAH.1 hb' with h1 | h1
  ·exact h.ord b h1 r (by rw [Zby hk];exact YAe _ hr)
  ·have:b=q:=by simpa using h1
   subst this;exact ZiC hs hk r hr
 apartR:=fun b hb' r hr=>by
  rcases YAH.1 hb' with h1 | h1
  ·exact h.apartR b h1 r (by rw [Zby hk];exact YAe _ hr)
  ·have:b=q:=by simpa using h1
   subst this;exact ZiQ ha hk r hr
 below:=(h.below.trans (hb.mono h.below.size)).grown hg (YAG h.below.size hb.size) h.new
theorem BI.pass (h:BI W B w2 qs k x (b0++[b]))(hq:∀ q∈qs,OffR q.1)(hk:qs[k]? = some q)(ht:b.1.to=q.1.to)(hne:ordQ b.1 q.1≠0)(hb:Below W.heap.size W Wa):BI Wa B w2 qs (k+1) x (b0++[b]) where
 own:=(h.own.below hb (YA _)).wide (YA _) hb.size
 new:=h.new
 best:=by
  rw [ZeS hk,ZaO];have h1:=h.best;rw [ZaO] at h1;exact h1.pass (h.offT hq) (h.off b (by simp)) (hq q (YAF hk)) ht (h.worse hq hk ht hne)
 off:=h.off
 ord:=fun c hc r hr=>h.ord c hc r (by rw [Zby hk];exact YAe _ hr)
 apartR:=fun c hc r hr=>h.apartR c hc r (by rw [Zby hk];exact YAe _ hr)
 below:=h.below.trans (hb.mono h.below.size)
theorem BI.join {n:Nat}(h:BI W B w2 qs k (.slice (some ⟨g,0,none⟩) n cap) (b0++[b]))(hn:(b0++[b]).length=n)(hq:∀ q∈qs,OffR q.1)(hk:qs[k]? = some q)(he:ordQ b.1 q.1=0)(hB:B<=w2.heap.size)(hqt:∀ r∈qs,∀ j,r.2.ownBlock=some j->j<w2.heap.size)
  (hb:Below W.heap.size W Wa) (hu:Wa.ownsRow W.heap.size 3 1 u (ZeV b.1.hops q.1.hops).length (flat intE (ZeV b.1.hops q.1.hops))):BI (Wa.setCell ⟨g,b0.length*6+5,none⟩ u) B w2 qs (k+1) (.slice (some ⟨g,0,none⟩) n cap) (b0++[({ b.1 with hops:=ZeV b.1.hops q.1.hops },u)]) where
 own:=h.own.last hn hb hu (YAG hB h.below.size)
 new:=h.new
 best:=by
  rw [ZeS hk,ZaO];have h1:=h.best;rw [ZaO] at h1;exact h1.join (h.offT hq) (h.off b (by simp)) (hq q (YAF hk)) he
 off:=fun c hc=>by
  rcases YAH.1 hc with h1 | h1
  ·exact h.off c (YAH.2 (.inl h1))
  ·have:c=({ b.1 with hops:=ZeV b.1.hops q.1.hops },u):=by simpa using h1
   subst this;have hb':=h.off b (by simp);have hq':=hq q (YAF hk);exact⟨hb'.thing,hb'.kind,hb'.cost,hb'.far,Zif _ _,fun z hz=>by
    rcases Zig.1 hz with h2 | h2
    ·exact hb'.hop6 z h2
    ·exact hq'.hop6 z h2,hb'.node⟩
 ord:=fun c hc r hr=>by
  have hr':r∈qs.drop k:=by rw [Zby hk];exact YAe _ hr
  rcases YAH.1 hc with h1 | h1
  ·exact h.ord c (YAH.2 (.inl h1)) r hr'
  ·have:c=({ b.1 with hops:=ZeV b.1.hops q.1.hops },u):=by simpa using h1
   subst this;exact h.ord b (by simp) r hr'
 apartR:=fun c hc r hr=>by
  have hr':r∈qs.drop k:=by rw [Zby hk];exact YAe _ hr
  rcases YAH.1 hc with h1 | h1
  ·exact h.apartR c (YAH.2 (.inl h1)) r hr'
  ·have:c=({ b.1 with hops:=ZeV b.1.hops q.1.hops },u):=by simpa using h1
   subst this;intro j hj e;have h2:=(hu.lt j hj).1;have h3:=hqt r (List.mem_of_mem_drop hr) j e;have:=h.below.size;omega
 below:=(h.below.trans (hb.mono h.below.size)).grown (Zaj Wa g _ u) (YAG h.below.size hb.size) (fun j hj=>h.new j hj)
theorem Zle (lo:Nat)(v1 v2:Value)(ps:List JP)(xs:List TnP)(w:World)(h1:LnsOwn w lo w.heap.size v1 ps)(h2:w.ownsRow lo 41 4 v2 xs.length (flat ZeK xs))(ht:∀ x∈xs,OkT lo x w)(hl:∀ x∈xs,x.1.line.hops.length<=1048576)(hk:ZaP (Zag ps))(hn:totJ ps<=1048576)(hs:ps.length+xs.length<=1048576):
  Calls Tryz.prog 7 #[v1,v2] w fun e w'=>∃ u qs,e=.returned u/\Zag qs=ZaV (Zbm (ps.length:Int) (ZbI (Zag ps)) 0 (xs.map (·.1)))/\LnsOwn w' w.heap.size w'.heap.size u qs/\Below w.heap.size w w':=by
 have hln:=Zbj ps;obtain⟨a1,c1,rfl⟩:=h1.at.shape;obtain⟨a2,c2,rfl⟩:=Zac h2;have hk0:ZaP (ZaV (ZbI (Zag ps))):=by rw [ZcL];exact hk
 have HK0:=hide hk0;have HT:=hide ht;have HTL:=hide hl;have H2:=hide h2;have HLM:=hide (Zhz (.slice a1 ps.length c1) ps w h1.at hk hn);have HOP:=hide (fun W (hb:Below w.heap.size w W)=>(fun p hp=>⟨Zad (h1.nears p hp).1 hb (YA _),by have:=ZbO hp;omega⟩:∀ p∈ps,W.ownsRow lo 3 1 p.2 p.1.hops.length (flat intE p.1.hops)/\p.1.hops.length<=1048576));clear h1 h2 ht hl hk hk0
 go_enter Tryz.func7,Tryz.ntmps7
 go_wp2_with fail
 refine HLM.out.mono ?_;rintro e w1 ⟨m,es0,rfl,hlp,b1⟩;have A0:=hide (ZmH (xs.map (·.1)) hlp (HOP.out w1 b1));clear hlp HOP HLM;go_wp2
 go_loopw [12] (fun i wr=>∃ (k:Nat) (es:List BE) (clk:Nat),k<=xs.length/\i=.int .i64 (k:Int)/\Hid (ApAt wr w.heap.size lo m (ps.length:Int) (ZbI (Zag ps)) (xs.map (·.1)) k es clk)/\Below w.heap.size w wr) (fun i _=>xs.length-(intOf i).toNat)
 case atStart=>exact ⟨0,_,_,by omega,rfl,A0,b1⟩
 case round=>
  clear A0 b1;obtain⟨k,es,clk,hk,rfl,HA,hnx⟩:=hrel;have hsz:=hnx.size;by_cases hlt:k<xs.length
  ·obtain ⟨x,hx⟩:∃ x,xs[k]? = some x:=⟨xs[k],YAA hlt⟩;obtain⟨g,gc,hue,hg1,hgl⟩:=ZbC H2.out (by omega);cases hue;have hcell:∀ c u,(ZeK x)[c]? = some u->c<4->wr.cell? ⟨g,k*4+c,none⟩=some u:=fun c u hu hc=>by
    rw [hnx.cell (p:=⟨g,k*4+c,none⟩) hgl,H2.out.cellAt _ (by omega),Zbi ZlA _ k c x hx hc];exact hu
   have c0:=hcell 0 _ rfl (by omega);have c1:=hcell 1 _ rfl (by omega);have c2:=hcell 2 _ rfl (by omega);have c3:=hcell 3 _ rfl (by omega);rw [Nat.add_zero] at c0;have hxm:=YAF hx;have hxo:=HT.out x hxm;have hxl:=HTL.out x hxm;have htk:(xs.map (·.1))[k]? = some x.1:=by rw [YAZ,hx];rfl
   unfold OkT at hxo;obtain⟨ua,uc,hue⟩:=Zac hxo;obtain⟨⟨gn,⟨tg,z,hs'⟩⟩,u⟩:=x;simp only at c0 c1 c2 c3 hxo hxl htk hue;subst hue;have HTK:=hide htk;have HXO:=hide hxo;have hki:(0:Int)<=(k:Int):=by omega
   have hkj:(k:Int)<(xs.length:Int):=by omega
   clear hx hxm hcell hxo htk;have bb:=(YAB wr.heap.size wr).alloc (YA _) (.cells #[.bool gn,.bool tg,.int .i64 z,.slice ua hs'.length uc] 41);have hbx:=YAE wr (.cells #[.bool gn,.bool tg,.int .i64 z,.slice ua hs'.length uc] 41);cases gn
   ·go_wp2_with fail
    obtain⟨W5,hW5⟩:∃ W5,W5=wr.alloc (.cells #[.bool false,.bool tg,.int .i64 z,.slice ua hs'.length uc] 41):=⟨_,rfl⟩;rw [<-hW5] at bb hbx |-;clear hW5;have HA5:=hide (HA.out.below bb);have HX5:=hide (Zad HXO.out (hnx.trans (bb.mono hsz)) (YA _));have PG:=hide (Zns w.heap.size m clk es ⟨tg,z,hs'⟩ (.slice ua hs'.length uc) ((ps.length:Int)+(k:Int)) W5 HA5.out.lg);unfold lnC at PG;have bb5:=hnx.trans (bb.mono hsz);refine PG.out.mono ?_;rintro e w6 ⟨rfl,v6,hl6,hg6⟩;have HA6:=hide (HA5.out.put HK0.out HTK.out HX5.out hxl hl6 hg6);have hmw:=HA5.out.lg.low;have hb6:Below w.heap.size w w6:=bb5.grown hg6 bb5.size (fun j hj=>by simp at hj;omega);clear hl6 hg6 PG HA5 HX5 HA HXO bb hbx;go_wp2;go_roundw
    case rel=>exact ⟨k+1,_,_,by omega,by go_num,HA6,hb6⟩
    case measure=>simp [intOf];omega
   ·go_wp2_with fail
    obtain⟨W5,hW5⟩:∃ W5,W5=wr.alloc (.cells #[.bool true,.bool tg,.int .i64 z,.slice ua hs'.length uc] 41):=⟨_,rfl⟩;rw [<-hW5] at bb hbx |-;clear hW5;have HA5:=hide (HA.out.below bb);have KY:=hide (Zcs ⟨tg,z,hs'⟩ (.slice ua hs'.length uc) W5);unfold lnC at KY;have bb5:=hnx.trans (bb.mono hsz);refine KY.out.mono ?_;rintro e w6 ⟨rfl,b6⟩;have HA6:=hide (HA5.out.below b6);have bb6:=bb5.trans (b6.mono bb5.size);obtain⟨w7,hrun,hl7,hg7⟩:=HA6.out.lg.del tg z 0;have HA7:=hide (HA6.out.gone HK0.out HTK.out hl7 hg7);have hmw:=HA6.out.lg.low;have hb7:Below w.heap.size w w7:=bb6.grown hg7 bb6.size (fun j hj=>by simp at hj;omega);clear KY HA5 bb hbx HA HXO b6 hl7 hg7;go_wp2;exact⟨⟨k+1,_,_,by omega,by go_num,HA7,hb7⟩,by simp [intOf];omega⟩
  ·have hkn:k=xs.length:=by omega
   have KN:=hide hkn;clear hkn;obtain⟨eb,heb⟩:=ZiA es (fun y hy=>by obtain ⟨a,c,h⟩:=Zac (HA.out.hop y hy).1;exact⟨_,_,_,h⟩);have hst:=HA.out.st;have hlen:=ZiM (ps.length:Int) ((xs.map (·.1)).take k) (ZbI (Zag ps)) 0;have hesl:es.length=(stG es).length:=by simp [stG]
   have hpl:(ZbI (Zag ps)).length=ps.length:=by simp [ZbI,Zag]
   have hel:es.length<=1048576:=by
    rw [hesl,hst];refine YAG hlen ?_;rw [hpl,List.length_take,YAb];omega
   have hasc:=ZiL ((xs.map (·.1)).take k) (ZbI (Zag ps)) 0 HK0.out (Zg0 (Zag ps)).1 (by have:=(Zg0 (Zag ps)).2;simpa [Zag] using this);rw [<-hst] at hasc;have HLI:=hide (ZlT w.heap.size m clk eb (eb.map (·.2)) rfl lo wr (by rw [heb];exact HA.out.lg) (by rw [YAb];have:=congrArg List.length heb;rw [YAb] at this;omega)
    (fun x hx=>by
     obtain⟨y,hy,rfl⟩:=YAV.1 hx;exact (HA.out.hop (entB y) (by rw [<-heb];exact List.mem_map_of_mem hy)).1)
    (fun x hx=>by
     obtain⟨y,hy,rfl⟩:=YAV.1 hx;exact (HA.out.hop (entB y) (by rw [<-heb];exact List.mem_map_of_mem hy)).2)
    (by
     unfold stG at hasc;rw [<-heb,YAa,YAY] at hasc;rw [YAa,YAY];exact hasc))
   have HEQ:=hide (show (eb.map (·.2)).map (fun x=>x.1.2.1)=ZaV (Zbm (ps.length:Int) (ZbI (Zag ps)) 0 (xs.map (·.1))) by
    have h9:=hst;rw [show (xs.map (·.1)).take k=xs.map (·.1) by rw [KN.out];exact YAc (by simp)] at h9;rw [<-h9];unfold ZaV stG;rw [<-heb,YAa,YAa,YAa];rfl)
   clear hst hlen hesl hpl hel hasc heb
   go_wp2_with fail
   refine HLI.out.mono ?_;rintro e w7 ⟨u7,qs,rfl,hq,ho,b7⟩;obtain⟨ua,uc,rfl⟩:=Zac ho.row;have HO:=hide (ho.wide hsz (YA _));have HQ:=hide (hq.trans HEQ.out);clear ho hq;go_wp2;go_ret;exact⟨_,qs,rfl,HQ.out,HO.out,hnx.trans (b7.mono hsz)⟩
end Go.Proofs.YtdhnddfnckgbjaaGreat
