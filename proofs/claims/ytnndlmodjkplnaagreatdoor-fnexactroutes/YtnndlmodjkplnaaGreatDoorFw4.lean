/-
  CopyK PushK InstK SelfK SelfL EarK
-/
import Derived.Test.YtnndlmodjkplnaaGreatDoorFw3
import Derived.Laws.AppendOwnNone
import Derived.Test.YtnndlmodjkplnaaGreatDoorFw2
namespace Go.Proofs.YtnndlmodjkplnaaGreatDoor
open Go.RowKit
set_option linter.unusedSimpArgs false
set_option linter.unusedVariables false
set_option maxRecDepth 100000
set_option maxHeartbeats 8000000
theorem ZcL {α:Type}{enc:α->List Value}{sz bytes:Nat}(hlen:∀ l:List α,(flat enc l).length=l.length*sz)(hpos:0<sz)(hone:∀ a,∀ u∈enc a,u.oneCell'=true)(hbb:bytes<=100){P:Program}(w:World){ops:Array Oper}{rest:List Oper}{o:Oper}{a:Act}{Q:Exit->Act->World->Prop}(hgd:o.guard=none)(s x:Operand)(t:TypeId)
  (ho:o.op=.call { callee:=.builtin .append,args:=#[s,x],argTypes:=#[t,t] }) (base:Nat) (e:TypeId) (ht:P.underlying t=some (.slice e)) (zv:Value) (hzv:zv.cells.size=sz)
  (hinfo:(P.info? e).map (fun i=>(i.zero,i.size,i.bytes))=some (some zv,sz,bytes))
  (v:Value) (l:List α) (hs:a.eval s=v) (hown:w.ownsRow base e sz v l.length (flat enc l))
  (base2:Nat) (v2:Value) (l2:List α) (hx:a.eval x=v2) (hown2:w.ownsRow base2 e sz v2 l2.length (flat enc l2))
  (hl:l.length+l2.length<=1000000000) (hbase:base<=w.heap.size)
  (h:∀ v' w',w'.ownsRow base e sz v' (l++l2).length (flat enc (l++l2))->w.grownBy w' v.ownBlock->wpList P ops Q rest (a.put o.dst v') w'):wpList P ops Q (o::rest) a w:=by
 obtain⟨i0,hi,hz0,hz1,hz2⟩:=info_parts hinfo
 rcases hown2.2 with ⟨e1,e2⟩ | ⟨g,cap,cur,e1,_⟩
 ·have e3:l2=[]:=List.eq_nil_of_length_eq_zero e2
  subst e3;refine wpList_append_own_none hgd s x t ho base e i0 sz ht hi v l.length (flat enc l) hs hown (hx.trans e1) ?_
  exact h v w (by simpa using hown) (Zbb w _)
 ·refine wpList_append_own w hgd s x t ho base e i0 zv sz bytes ht hi hz0 hz1 hz2 hzv hpos v l.length (flat enc l) hs hown ⟨g,0,none⟩ l2.length cap (flat enc l2) (hx.trans e1) (hlen l2) (hown2.cells (by rw [e1];rfl)) ?_ (by unfold maxLen;omega) ?_ hbase ?_
  ·intro u hu
   simp only [flat,List.mem_flatMap] at hu
   obtain⟨b,_,hb⟩:=hu;exact hone b u hb
  ·have:(l.length+l2.length)*bytes<=1000000000*100:=Nat.mul_le_mul hl hbb
   omega
  ·intro v' w' h1 h2 _
   have e1:flat enc l++flat enc l2=flat enc (l++l2):=by rw [ZaK]
   rw [e1] at h1;exact h v' w' (by simpa using h1) h2
abbrev ZnP (W:World) (g:Nat) (x:RecD) (v:Value):World:=(((((((W.setCell ⟨g,0,none⟩ (.int .i64 x.area)).setCell ⟨g,1,none⟩ (.int .i64 x.kind)).setCell ⟨g,2,none⟩ (.int .i64 x.owner)).setCell ⟨g,3,none⟩ (.int .i64 x.key)).setCell ⟨g,4,none⟩ (.int .i64 x.seq)).setCell ⟨g,5,none⟩ v).setCell ⟨g,6,none⟩ (.int .i64 x.cost)).setCell ⟨g,7,none⟩ (.bool x.far)
theorem fin85 {W:World}{B0:Nat}{c0 c1 c2 c3 c4 c5 c6 c7:Value}(x:RecD)(v:Value)(hr:W.heap[B0]? = some (.cells #[c0,c1,c2,c3,c4,c5,c6,c7] 128)):
  (ZnP W B0 x v).heap[B0]? = some (.cells (recC x v) 128):=by
 have k1:=heap_setCell_same _ _ 0 _ _ (.int .i64 x.area) hr;have k2:=heap_setCell_same _ _ 1 _ _ (.int .i64 x.kind) k1;have k3:=heap_setCell_same _ _ 2 _ _ (.int .i64 x.owner) k2;have k4:=heap_setCell_same _ _ 3 _ _ (.int .i64 x.key) k3;have k5:=heap_setCell_same _ _ 4 _ _ (.int .i64 x.seq) k4;have k6:=heap_setCell_same _ _ 5 _ _ v k5;have k7:=heap_setCell_same _ _ 6 _ _ (.int .i64 x.cost) k6;have k8:=heap_setCell_same _ _ 7 _ _ (.bool x.far) k7;simp only [List.setIfInBounds_toArray,List.set_cons_zero,List.set_cons_succ] at k8
 unfold ZnP recC;exact k8
theorem Zne (W:World)(g:Nat)(x:RecD)(v:Value):W.grownBy (ZnP W g x v) (some g):=
 Zai (Zai (Zai (Zai (Zai (Zai (Zai (Zaj W g _ _) (Zaj _ g _ _)) (Zaj _ g _ _)) (Zaj _ g _ _)) (Zaj _ g _ _)) (Zaj _ g _ _)) (Zaj _ g _ _)) (Zaj _ g _ _)
theorem ZbT {α:Type}{enc:α->List Value}{sz bytes:Nat}(hlen:∀ a,(enc a).length=sz)(hpos:0<sz)(hbb:bytes<=100){P:Program}(w:World){ops:Array Oper}{rest:List Oper}{o:Oper}{a:Act}{Q:Exit->Act->World->Prop}(hgd:o.guard=none)(s x:Operand)(t:TypeId)
  (ho:o.op=.call { callee:=.builtin .append,args:=#[s,x],argTypes:=#[t,t] }) (base:Nat) (e:TypeId) (ht:P.underlying t=some (.slice e)) (zv:Value) (hzv:zv.cells.size=sz)
  (hinfo:(P.info? e).map (fun i=>(i.zero,i.size,i.bytes))=some (some zv,sz,bytes))
  (v:Value) (l:List α) (y:α) (hone:∀ u∈enc y,u.oneCell'=true) (hs:a.eval s=v) (hown:w.ownsRow base e sz v l.length (flat enc l))
  (ad:Addr) (c:Nat) (hx:a.eval x=.slice (some ad) 1 c) (hnews:∀ j u,(enc y)[j]? = some u->w.cell? (ad.add j)=some u)
  (hl:l.length+1<=1000000000) (hbase:base<=w.heap.size)
  (h:∀ v' w',w'.ownsRow base e sz v' (l++[y]).length (flat enc (l++[y]))->w.grownBy w' v.ownBlock->wpList P ops Q rest (a.put o.dst v') w'):wpList P ops Q (o::rest) a w:=by
 obtain⟨i0,hi,hz0,hz1,hz2⟩:=info_parts hinfo;refine wpList_append_own w hgd s x t ho base e i0 zv sz bytes ht hi hz0 hz1 hz2 hzv hpos v l.length (flat enc l) hs hown ad 1 c (enc y) hx (by rw [hlen];omega) hnews hone (by unfold maxLen;omega) ?_ hbase ?_
 ·have:(l.length+1)*bytes<=1000000000*100:=Nat.mul_le_mul hl hbb
  omega
 ·intro v' w' h1 h2 _
  have e1:flat enc l++enc y=flat enc (l++[y]):=by rw [ZaK];simp [flat]
  rw [e1] at h1;exact h v' w' (by simpa using h1) h2
theorem Zki {W:World}{lo lo2 hi n size2:Nat}{v:Value}{xs:List Value}{q:RP}(hq:ZbE W lo hi q)(hr:W.ownsRow lo2 128 size2 v n xs)(j:Nat)(hj:q.2.ownBlock=some j):some j≠v.ownBlock:=by
 intro e
 rcases hr.2 with ⟨h0,_⟩ | ⟨g,cap,cur,hv,_,hh,_⟩
 ·rw [h0] at e;simp [Value.ownBlock] at e
 ·rw [hv] at e
  simp [Value.ownBlock] at e
  subst e;exact Zap hq.1 hh (by decide) hj.symm
theorem RecsOwn.push {W Wa W2:World}{lo:Nat}{v v':Value}{qs:List RP}{p:RP}(h:RecsOwn W lo W.heap.size v qs)(hb:Below W.heap.size W Wa)(hlo:lo<=W.heap.size)(hp:ZbE Wa W.heap.size Wa.heap.size p)
  (row:W2.ownsRow lo 128 8 v' (qs.length+1) (flat encP (qs++[p]))) (hg:Wa.grownBy W2 v.ownBlock):RecsOwn W2 lo W2.heap.size v' (qs++[p]) where
 row:=by simpa using row
 top:=fun k hk=>(row.lt k hk).2
 apart:=Zip h.apart h.nears (fun k hk=>(hp.1.lt k hk).1)
 nears:=by
  have rowa:=Zaf h.row hb (Nat.le_refl _);have key:∀ q,ZbE Wa lo Wa.heap.size q->ZbE W2 lo W2.heap.size q:=fun q hq=>
   ⟨Zal hq.1 (fun j hj=>hg.block j (hq.2 j hj) (Zki hq rowa j hj)),fun k hk=>Nat.lt_of_lt_of_le (hq.2 k hk) hg.size⟩
  intro q hq
  rcases List.mem_append.1 hq with h1 | h1
  ·exact key q (((h.nears q h1).keep (W':=Wa) (fun j _ h2 _=>hb.block j h2)).wide (Nat.le_refl _) hb.size)
  ·have:q=p:=by simpa using h1
   subst this;exact key q (hp.wide hlo (Nat.le_refl _))
structure RecsIn (W:World) (hi:Nat) (v:Value) (ps:List RP):Prop where
 row:W.ownsRow 0 128 8 v ps.length (flat encP ps)
 top:∀ k,v.ownBlock=some k->k<hi
 nears:∀ p∈ps,ZbE W 0 hi p
theorem RecsOwn.in {W:World}{lo hi:Nat}{v:Value}{ps:List RP}(h:RecsOwn W lo hi v ps):RecsIn W hi v ps:=⟨Zah h.row (Nat.zero_le _),h.top,fun p hp=>(h.nears p hp).wide (Nat.zero_le _) (Nat.le_refl _)⟩
theorem RecsIn.keep {W W':World}{hi:Nat}{v:Value}{ps:List RP}(h:RecsIn W hi v ps)(hk:∀ k,k<hi->k<W.heap.size->W'.heap[k]? = W.heap[k]?):RecsIn W' hi v ps where
 row:=Zal h.row (fun k e=>hk k (h.top k e) (h.row.lt k e).2)
 top:=h.top
 nears:=fun p hp=>(h.nears p hp).keep (fun k _ h2 h3=>hk k h2 h3)
theorem RecsIn.below {W W':World}{hi B:Nat}{v:Value}{ps:List RP}(h:RecsIn W hi v ps)(hb:Below B W W')(hB:hi<=B):RecsIn W' hi v ps:=h.keep (fun k h2 _=>hb.block k (by omega))
theorem RecsIn.wide {W:World}{hi hi':Nat}{v:Value}{ps:List RP}(h:RecsIn W hi v ps)(hh:hi<=hi'):RecsIn W hi' v ps:=⟨h.row,fun k e=>Nat.lt_of_lt_of_le (h.top k e) hh,fun p hp=>(h.nears p hp).wide (Nat.le_refl _) hh⟩
theorem RecsIn.at {W:World}{hi:Nat}{v:Value}{ps:List RP}(h:RecsIn W hi v ps):Zbo W v ps hi:=by
 refine⟨?_,fun p hp=>(h.nears p hp).at⟩
 have h1:=ZaU h.row;obtain⟨a,cap,hv,h2⟩:=h1;refine⟨a,cap,hv,?_⟩
 rcases h2 with h0 | ⟨b,off,ha,hb1,hx⟩
 ·exact .inl h0
 ·exact .inr ⟨b,off,ha,h.top b (by rw [hv,ha];rfl),hx⟩
structure SelfD where
 id:Int
 boot:Int
 net:NetD
 heard:List Int
abbrev Zfp (x:SelfD) (v1 v2 v3 v4:Value):Value:=.agg #[.int .i64 x.id,.int .i64 x.boot,.int .i64 x.net.n,v1,v2,v3,v4]
structure SelfIn (W:World) (v1 v2 v3 v4:Value) (x:SelfD) (ps:List RP) (B:Nat):Prop where
 links:Zbf W v1 x.net.ls B
 things:ZaP W v2 x.net.ts B
 heard:ZaG W v3 x.heard B
 store:Zbo W v4 ps B
def Zpp (W:World)(v:Value)(x:SelfD)(ps:List RP)(B:Nat):Prop:=∃ v1 v2 v3 v4,v=Zfp x v1 v2 v3 v4/\Zbf W v1 x.net.ls B/\ZaP W v2 x.net.ts B/\ZaG W v3 x.heard B/\Zbo W v4 ps B
def ZjE (x:SelfD)(ps:List RP):Prop:=x.net.ls.length<=maxLen/\x.net.ts.length<=maxLen/\x.heard.length<=maxLen/\ps.length<=maxLen/\∀ p∈ps,p.1.near.length<=maxLen
theorem Zpp.in {W:World}{v:Value}{x:SelfD}{ps:List RP}{B:Nat}(h:Zpp W v x ps B):∃ v1 v2 v3 v4,v=Zfp x v1 v2 v3 v4/\SelfIn W v1 v2 v3 v4 x ps B:=by
 obtain⟨v1,v2,v3,v4,h0,h1,h2,h3,h4⟩:=h;exact⟨v1,v2,v3,v4,h0,h1,h2,h3,h4⟩
theorem SelfIn.later {W W':World}{v1 v2 v3 v4:Value}{x:SelfD}{ps:List RP}{B C:Nat}(h:SelfIn W v1 v2 v3 v4 x ps B)(hb:Below C W W')(hBC:B<=C):SelfIn W' v1 v2 v3 v4 x ps B:=
 ⟨ZaL.later h.links hb hBC,ZaL.later h.things hb hBC,ZaL.later h.heard hb hBC,h.store.later hb hBC⟩
theorem SelfIn.more {W:World}{v1 v2 v3 v4:Value}{x:SelfD}{ps:List RP}{B C:Nat}(h:SelfIn W v1 v2 v3 v4 x ps B)(hBC:B<=C):SelfIn W v1 v2 v3 v4 x ps C:=
 ⟨ZaL.more h.links hBC,ZaL.more h.things hBC,ZaL.more h.heard hBC,h.store.more hBC⟩
theorem SelfIn.then {W W':World}{v1 v2 v3 v4:Value}{x:SelfD}{ps:List RP}(h:SelfIn W v1 v2 v3 v4 x ps W.heap.size)(hb:Below W.heap.size W W'):SelfIn W' v1 v2 v3 v4 x ps W'.heap.size:=(h.later hb (Nat.le_refl _)).more hb.size
def totS (x:SelfD)(ps:List RP):Nat:=x.net.ls.length+x.net.ts.length+x.heard.length+tot ps
structure SelfOwn (W:World) (lo hi:Nat) (v1 v2 v3 v4:Value) (x:SelfD) (ps:List RP) (m1 m2:Nat):Prop where
 o1:lo<=m1
 o2:m1<=m2
 o3:m2<=hi
 links:W.ownsRow lo 84 4 v1 x.net.ls.length (flat lkE x.net.ls)
 ltop:∀ k,v1.ownBlock=some k->k<m1
 things:W.ownsRow lo 123 4 v2 x.net.ts.length (flat thE x.net.ts)
 ttop:∀ k,v2.ownBlock=some k->k<m1
 heard:IntsOwn W m1 m2 v3 x.heard
 store:RecsOwn W m2 hi v4 ps
theorem Zdi {α:Type}{enc:α->List Value}{W:World}{lo hi sz:Nat}{t:TypeId}{v:Value}{l:List α}(h:W.ownsRow lo t sz v l.length (flat enc l))(ht:∀ k,v.ownBlock=some k->k<hi):ZaD enc sz W v l hi:=by
 obtain⟨a,cap,hv,h2⟩:=ZaU h;refine⟨a,cap,hv,?_⟩
 rcases h2 with h0 | ⟨b,off,ha,hb1,hx⟩
 ·exact .inl h0
 ·exact .inr ⟨b,off,ha,ht b (by rw [hv,ha];rfl),hx⟩
theorem SelfOwn.in {W:World}{lo hi m1 m2:Nat}{v1 v2 v3 v4:Value}{x:SelfD}{ps:List RP}(h:SelfOwn W lo hi v1 v2 v3 v4 x ps m1 m2):SelfIn W v1 v2 v3 v4 x ps hi where
 links:=ZaL.more (Zdi h.links h.ltop) (Nat.le_trans h.o2 h.o3)
 things:=ZaL.more (Zdi h.things h.ttop) (Nat.le_trans h.o2 h.o3)
 heard:=ZaL.more h.heard.at h.o3
 store:=h.store.at
theorem SelfOwn.keep {W W':World}{lo hi m1 m2:Nat}{v1 v2 v3 v4:Value}{x:SelfD}{ps:List RP}(h:SelfOwn W lo hi v1 v2 v3 v4 x ps m1 m2)(hk:∀ k,lo<=k->k<hi->k<W.heap.size->W'.heap[k]? = W.heap[k]?):SelfOwn W' lo hi v1 v2 v3 v4 x ps m1 m2 where
 o1:=h.o1
 o2:=h.o2
 o3:=h.o3
 links:=Zal h.links (fun k e=>by have h1:=h.links.lt k e;have h2:=h.ltop k e;have:=h.o2;have:=h.o3;exact hk k h1.1 (by omega) h1.2)
 ltop:=h.ltop
 things:=Zal h.things (fun k e=>by have h1:=h.things.lt k e;have h2:=h.ttop k e;have:=h.o2;have:=h.o3;exact hk k h1.1 (by omega) h1.2)
 ttop:=h.ttop
 heard:=h.heard.keep (fun k a b c=>by have:=h.o1;have:=h.o3;exact hk k (by omega) (by omega) c)
 store:=h.store.keep (fun k a b c=>by have:=h.o1;have:=h.o2;exact hk k (by omega) b c)
theorem SelfOwn.below {W W':World}{lo hi m1 m2 B:Nat}{v1 v2 v3 v4:Value}{x:SelfD}{ps:List RP}(h:SelfOwn W lo hi v1 v2 v3 v4 x ps m1 m2)(hb:Below B W W')(hB:hi<=B):SelfOwn W' lo hi v1 v2 v3 v4 x ps m1 m2:=h.keep (fun k _ h2 _=>hb.block k (by omega))
theorem SelfOwn.frame {W W':World}{lo hi m1 m2 l2 h2:Nat}{v1 v2 v3 v4:Value}{x:SelfD}{ps:List RP}(h:SelfOwn W lo hi v1 v2 v3 v4 x ps m1 m2)(hb:Frame l2 h2 W W')(hB:hi<=l2\/h2<=lo):SelfOwn W' lo hi v1 v2 v3 v4 x ps m1 m2:=h.keep (fun k a b c=>hb.block k c (by omega))
theorem SelfOwn.low {W:World}{lo lo' hi m1 m2:Nat}{v1 v2 v3 v4:Value}{x:SelfD}{ps:List RP}(h:SelfOwn W lo hi v1 v2 v3 v4 x ps m1 m2)(hl:lo'<=lo):SelfOwn W lo' hi v1 v2 v3 v4 x ps m1 m2:=
 ⟨Nat.le_trans hl h.o1,h.o2,h.o3,Zah h.links hl,h.ltop,Zah h.things hl,h.ttop,h.heard,h.store⟩
theorem SelfOwn.high {W:World}{lo hi hi' m1 m2:Nat}{v1 v2 v3 v4:Value}{x:SelfD}{ps:List RP}(h:SelfOwn W lo hi v1 v2 v3 v4 x ps m1 m2)(hl:hi<=hi'):SelfOwn W lo hi' v1 v2 v3 v4 x ps m1 m2:=
 ⟨h.o1,h.o2,Nat.le_trans h.o3 hl,h.links,h.ltop,h.things,h.ttop,h.heard,h.store.wide (Nat.le_refl _) hl⟩
structure SelfSrc (W:World) (hi:Nat) (v1 v2 v3 v4:Value) (x:SelfD) (ps:List RP):Prop where
 links:W.ownsRow 0 84 4 v1 x.net.ls.length (flat lkE x.net.ls)
 ltop:∀ k,v1.ownBlock=some k->k<hi
 things:W.ownsRow 0 123 4 v2 x.net.ts.length (flat thE x.net.ts)
 ttop:∀ k,v2.ownBlock=some k->k<hi
 heard:W.ownsRow 0 3 1 v3 x.heard.length (flat intE x.heard)
 htop:∀ k,v3.ownBlock=some k->k<hi
 store:RecsIn W hi v4 ps
theorem SelfOwn.src {W:World}{lo hi m1 m2:Nat}{v1 v2 v3 v4:Value}{x:SelfD}{ps:List RP}(h:SelfOwn W lo hi v1 v2 v3 v4 x ps m1 m2):SelfSrc W hi v1 v2 v3 v4 x ps where
 links:=Zah h.links (Nat.zero_le _)
 ltop:=fun k e=>by have:=h.ltop k e;have:=h.o2;have:=h.o3;omega
 things:=Zah h.things (Nat.zero_le _)
 ttop:=fun k e=>by have:=h.ttop k e;have:=h.o2;have:=h.o3;omega
 heard:=Zah h.heard.row (Nat.zero_le _)
 htop:=fun k e=>by have:=h.heard.top k e;have:=h.o3;omega
 store:=h.store.in
theorem SelfSrc.below {W W':World}{hi B:Nat}{v1 v2 v3 v4:Value}{x:SelfD}{ps:List RP}(h:SelfSrc W hi v1 v2 v3 v4 x ps)(hb:Below B W W')(hB:hi<=B):SelfSrc W' hi v1 v2 v3 v4 x ps where
 links:=Zal h.links (fun k e=>hb.block k (by have:=h.ltop k e;omega))
 ltop:=h.ltop
 things:=Zal h.things (fun k e=>hb.block k (by have:=h.ttop k e;omega))
 ttop:=h.ttop
 heard:=Zal h.heard (fun k e=>hb.block k (by have:=h.htop k e;omega))
 htop:=h.htop
 store:=h.store.below hb hB
theorem SelfSrc.in {W:World}{hi:Nat}{v1 v2 v3 v4:Value}{x:SelfD}{ps:List RP}(h:SelfSrc W hi v1 v2 v3 v4 x ps):SelfIn W v1 v2 v3 v4 x ps hi where
 links:=Zdi h.links h.ltop
 things:=Zdi h.things h.ttop
 heard:=Zdi h.heard h.htop
 store:=h.store.at
theorem SelfIn.net {W:World}{v1 v2 v3 v4:Value}{x:SelfD}{ps:List RP}{B:Nat}(h:SelfIn W v1 v2 v3 v4 x ps B):Zhy W (.agg #[.int .i64 x.net.n,v1,v2]) x.net B:=⟨v1,v2,rfl,h.links,h.things⟩
theorem SelfIn.shapes {W:World}{v1 v2 v3 v4:Value}{x:SelfD}{ps:List RP}{B:Nat}(h:SelfIn W v1 v2 v3 v4 x ps B):(∃ a c,v1=.slice a x.net.ls.length c)/\(∃ a c,v2=.slice a x.net.ts.length c)/\(∃ a c,v3=.slice a x.heard.length c)/\∃ a c,v4=.slice a ps.length c:=
 ⟨h.links.shape,h.things.shape,h.heard.shape,h.store.shape⟩
theorem Zmt (v1 v2 v3 v4:Value)(x:SelfD)(ps:List RP)(q:Int)(w:World)(hlen:ZjE x ps)(hq0:0<=q)(hq:q<=1048576)(hv:SelfIn w v1 v2 v3 v4 x ps w.heap.size):
  Calls Tryz.prog 16 #[Zfp x v1 v2 v3 v4,.int .i64 q] w fun e w'=>∃ r:Int,e=.returned (.int .i64 r)/\(r<0\/(0<=r/\r=q-(totS x ps:Int)))/\Below w.heap.size w w':=by
 obtain⟨⟨a1,c1,rfl⟩,⟨a2,c2,rfl⟩,⟨a3,c3,rfl⟩,⟨a4,c4,rfl⟩⟩:=hv.shapes;have hm:maxLen=9223372036854775807:=rfl;have l1:(x.net.ls.length:Int)<=9223372036854775807:=by have:=hlen.1;omega
 have l2:(x.net.ts.length:Int)<=9223372036854775807:=by have:=hlen.2.1;omega
 have l3:(x.heard.length:Int)<=9223372036854775807:=by have:=hlen.2.2.1;omega
 have HX:=hide hv;have HL:=hide hlen;have HT:=hide (show (totS x ps:Int)=(x.net.ls.length:Int)+(x.net.ts.length:Int)+(x.heard.length:Int)+(tot ps:Int) by unfold totS;omega)
 have hsz:=Zn3 (.int .i64 x.net.n) a1 a2 x.net.ls.length x.net.ts.length c1 c2 q;have HSZ:=hide hsz;clear hv hlen hm hsz;obtain⟨y,hy⟩:∃ y,y=szN q x.net.ls.length x.net.ts.length:=⟨_,rfl⟩;rw [<-hy] at HSZ;have hy2:y = -1\/(0<=y/\y=q-(x.net.ls.length:Int)-(x.net.ts.length:Int)):=by
  rw [hy];unfold szN
  split
  ·exact .inl rfl
  ·split
   ·exact .inl rfl
   ·exact .inr ⟨by omega,rfl⟩
 clear hy
 go_enter Tryz.func16,Tryz.ntmps16
 go_wp2_with fail
 refine (HSZ.out _ l1 l2 hq0 hq).mono ?_
 rintro e w1 ⟨rfl,b1⟩;have g1:w1.heap[w.heap.size]? = some (.cells #[.int .i64 x.id,.int .i64 x.boot,.int .i64 x.net.n,.slice a1 x.net.ls.length c1,.slice a2 x.net.ts.length c2,.slice a3 x.heard.length c3,.slice a4 ps.length c4] 29):=by rw [b1.block _ (by simp)];exact heap_alloc_new w _
 have B1:Below w.heap.size w w1:=((Below.refl _ _).alloc (Nat.le_refl _) _).trans (b1.mono (by simp))
 clear b1
 rcases hy2 with hy2 | ⟨hy0,hy2⟩
 ·subst hy2
  go_wp2
  go_ret
  exact⟨-1,rfl,.inl (by omega),B1⟩
 have hy1:¬y<0:=by omega
 have hyq:y<=1048576:=by omega
 have HY2:=hide hy2;clear hy2;have s5:=Zaa g1 5;simp at s5
 have HSI:=hide (Zmr a3 x.heard.length c3 y w1 l3 hy0 hyq);have G1:=hide g1;clear g1
 go_wp2_with fail
 refine HSI.out.mono ?_
 rintro e w2 ⟨rfl,rfl⟩;by_cases h3:y-(x.heard.length:Int)<0
 ·rw [if_pos h3]
  clear s5
  go_wp2
  go_ret
  exact⟨-1,rfl,.inl (by omega),B1⟩
 rw [if_neg h3];clear s5;obtain⟨z,hz⟩:∃ z,z=y-(x.heard.length:Int):=⟨_,rfl⟩;rw [<-hz] at h3 |-;have hz0:0<=z:=by omega
 have hz1:z<=1048576:=by omega
 have HZ:=hide hz;clear hz;have g1:=G1.out;have s6:=Zaa g1 6;simp at s6
 have HSR:=hide (Zia (.slice a4 ps.length c4) ps z w1 HL.out.2.2.2.1 HL.out.2.2.2.2 hz0 hz1 ((HX.out.store.later B1 (Nat.le_refl _)).more B1.size));clear g1
 go_wp2_with fail
 refine HSR.out.mono ?_
 rintro e w3 ⟨r,rfl,hr,b3⟩;have B3:Below w.heap.size w w3:=B1.trans (b3.mono B1.size);clear b3 s6
 rcases hr with hr | ⟨hr0,hr⟩
 ·go_wp2
  go_ret
  exact⟨-1,rfl,.inl (by omega),B3⟩
 ·have hr1:¬r<0:=by omega
  have HR:=hide hr;clear hr
  go_wp2
  go_ret
  exact⟨r,rfl,.inr ⟨hr0,by rw [HT.out];have:=HR.out;have:=HZ.out;have:=HY2.out;omega⟩,B3⟩
theorem ZmB (v1 v2 v3 v4:Value)(x:SelfD)(ps:List RP)(w:World)(ht:totS x ps<=1048576)(hv:SelfIn w v1 v2 v3 v4 x ps w.heap.size):
  Calls Tryz.prog 23 #[Zfp x v1 v2 v3 v4] w fun e w'=>∃ u1 u2 u3 u4 qs m1 m2,e=.returned (Zfp x u1 u2 u3 u4)/\fsts qs=fsts ps/\SelfOwn w' w.heap.size w'.heap.size u1 u2 u3 u4 x qs m1 m2/\Below w.heap.size w w':=by
 obtain⟨⟨a1,c1,rfl⟩,⟨a2,c2,rfl⟩,⟨a3,c3,rfl⟩,⟨a4,c4,rfl⟩⟩:=hv.shapes;have hlL:x.net.ls.length<=1048576:=by unfold totS at ht;omega
 have hlT:x.net.ts.length<=1048576:=by unfold totS at ht;omega
 have hlH:x.heard.length<=1048576:=by unfold totS at ht;omega
 have hlR:tot ps<=1048576:=by unfold totS at ht;omega
 have HX:=hide hv;clear hv ht
 go_enter Tryz.func23,Tryz.ntmps23
 go_wp2_with fail
 have hw0:=Zfa w (.cells #[.int .i64 x.id,.int .i64 x.boot,.int .i64 x.net.n,.slice a1 x.net.ls.length c1,.slice a2 x.net.ts.length c2,.slice a3 x.heard.length c3,.slice a4 ps.length c4] 29) (.cells #[.int .i64 0,.int .i64 0,.int .i64 0,.slice none 0 0,.slice none 0 0,.slice none 0 0,.slice none 0 0] 41) (.cells #[.int .i64 x.id,.int .i64 x.boot,.int .i64 0,.slice none 0 0,.slice none 0 0,.slice none 0 0,.slice none 0 0] 41);have hw1:=Zfb w (.cells #[.int .i64 x.id,.int .i64 x.boot,.int .i64 x.net.n,.slice a1 x.net.ls.length c1,.slice a2 x.net.ts.length c2,.slice a3 x.heard.length c3,.slice a4 ps.length c4] 29) (.cells #[.int .i64 0,.int .i64 0,.int .i64 0,.slice none 0 0,.slice none 0 0,.slice none 0 0,.slice none 0 0] 41) (.cells #[.int .i64 x.id,.int .i64 x.boot,.int .i64 0,.slice none 0 0,.slice none 0 0,.slice none 0 0,.slice none 0 0] 41);have hw2:=Zfc w (.cells #[.int .i64 x.id,.int .i64 x.boot,.int .i64 x.net.n,.slice a1 x.net.ls.length c1,.slice a2 x.net.ts.length c2,.slice a3 x.heard.length c3,.slice a4 ps.length c4] 29) (.cells #[.int .i64 0,.int .i64 0,.int .i64 0,.slice none 0 0,.slice none 0 0,.slice none 0 0,.slice none 0 0] 41) (.cells #[.int .i64 x.id,.int .i64 x.boot,.int .i64 0,.slice none 0 0,.slice none 0 0,.slice none 0 0,.slice none 0 0] 41);have bw:=Zbk (w:=w) (.cells #[.int .i64 x.id,.int .i64 x.boot,.int .i64 x.net.n,.slice a1 x.net.ls.length c1,.slice a2 x.net.ts.length c2,.slice a3 x.heard.length c3,.slice a4 ps.length c4] 29) (.cells #[.int .i64 0,.int .i64 0,.int .i64 0,.slice none 0 0,.slice none 0 0,.slice none 0 0,.slice none 0 0] 41) (.cells #[.int .i64 x.id,.int .i64 x.boot,.int .i64 0,.slice none 0 0,.slice none 0 0,.slice none 0 0,.slice none 0 0] 41);generalize (((w.alloc (.cells #[.int .i64 x.id,.int .i64 x.boot,.int .i64 x.net.n,.slice a1 x.net.ls.length c1,.slice a2 x.net.ts.length c2,.slice a3 x.heard.length c3,.slice a4 ps.length c4] 29)).alloc (.cells #[.int .i64 0,.int .i64 0,.int .i64 0,.slice none 0 0,.slice none 0 0,.slice none 0 0,.slice none 0 0] 41)).alloc (.cells #[.int .i64 x.id,.int .i64 x.boot,.int .i64 0,.slice none 0 0,.slice none 0 0,.slice none 0 0,.slice none 0 0] 41))=w1 at *;refine (Zn9 _ x.net w1 hlL hlT (HX.out.then bw).net).mono ?_
 rintro e w2 ⟨p1,p2,rfl,ho1,ho2,b2⟩;obtain⟨p1a,p1c,rfl⟩:=Zac ho1;obtain⟨p2a,p2c,rfl⟩:=Zac ho2;have l2:=Zab hw2;rw [<-b2.block _ (Zab hw0)] at hw0;rw [<-b2.block _ (Zab hw1)] at hw1;rw [<-b2.block _ l2] at hw2;have hb12:w.heap.size<=w1.heap.size:=bw.size;have hb22:w1.heap.size<=w2.heap.size:=b2.size;have bw2:Below w.heap.size w w2:=bw.trans (b2.mono hb12);have s2:=Zaa hw2 2;have s3:=Zaa hw2 3;have s4:=Zaa hw2 4;simp at s2 s3 s4
 have t5:=Zaa hw0 5;simp at t5
 have f2:=Zae hw2 2;have f3:=Zae hw2 3;have f4:=Zae hw2 4;have O1:=hide ho1;have O2:=hide ho2;have HW0:=hide hw0;have HW1:=hide hw1;have HW2:=hide hw2;clear ho1 ho2 hw0 hw1 hw2
 go_wp2_with fail
 have o1:=ZaM (p:=w.heap.size+1+1) (j:=4) (u:=.slice p2a x.net.ts.length p2c) (ZaM (p:=w.heap.size+1+1) (j:=3) (u:=.slice p1a x.net.ls.length p1c) (ZaM (p:=w.heap.size+1+1) (j:=2) (u:=.int .i64 x.net.n) O1.out (by omega)) (by omega)) (by omega)
 have o2:=ZaM (p:=w.heap.size+1+1) (j:=4) (u:=.slice p2a x.net.ts.length p2c) (ZaM (p:=w.heap.size+1+1) (j:=3) (u:=.slice p1a x.net.ls.length p1c) (ZaM (p:=w.heap.size+1+1) (j:=2) (u:=.int .i64 x.net.n) O2.out (by omega)) (by omega)) (by omega)
 have q0:(((w2.setCell ⟨w.heap.size+1+1,2,none⟩ (.int .i64 x.net.n)).setCell ⟨w.heap.size+1+1,3,none⟩ (.slice p1a x.net.ls.length p1c)).setCell ⟨w.heap.size+1+1,4,none⟩ (.slice p2a x.net.ts.length p2c)).heap[w.heap.size]? = some (.cells #[.int .i64 x.id,.int .i64 x.boot,.int .i64 x.net.n,.slice a1 x.net.ls.length c1,.slice a2 x.net.ts.length c2,.slice a3 x.heard.length c3,.slice a4 ps.length c4] 29):=by
  rw [heap_setCell_other _ ⟨w.heap.size+1+1,4,none⟩ _ _ (by show w.heap.size≠w.heap.size+1+1;omega),heap_setCell_other _ ⟨w.heap.size+1+1,3,none⟩ _ _ (by show w.heap.size≠w.heap.size+1+1;omega),heap_setCell_other _ ⟨w.heap.size+1+1,2,none⟩ _ _ (by show w.heap.size≠w.heap.size+1+1;omega)]
  exact HW0.out
 have q1:(((w2.setCell ⟨w.heap.size+1+1,2,none⟩ (.int .i64 x.net.n)).setCell ⟨w.heap.size+1+1,3,none⟩ (.slice p1a x.net.ls.length p1c)).setCell ⟨w.heap.size+1+1,4,none⟩ (.slice p2a x.net.ts.length p2c)).heap[w.heap.size+1]? = some (.cells #[.int .i64 0,.int .i64 0,.int .i64 0,.slice none 0 0,.slice none 0 0,.slice none 0 0,.slice none 0 0] 41):=by
  rw [heap_setCell_other _ ⟨w.heap.size+1+1,4,none⟩ _ _ (by show w.heap.size+1≠w.heap.size+1+1;omega),heap_setCell_other _ ⟨w.heap.size+1+1,3,none⟩ _ _ (by show w.heap.size+1≠w.heap.size+1+1;omega),heap_setCell_other _ ⟨w.heap.size+1+1,2,none⟩ _ _ (by show w.heap.size+1≠w.heap.size+1+1;omega)]
  exact HW1.out
 have q2:(((w2.setCell ⟨w.heap.size+1+1,2,none⟩ (.int .i64 x.net.n)).setCell ⟨w.heap.size+1+1,3,none⟩ (.slice p1a x.net.ls.length p1c)).setCell ⟨w.heap.size+1+1,4,none⟩ (.slice p2a x.net.ts.length p2c)).heap[w.heap.size+1+1]? = some (.cells #[.int .i64 x.id,.int .i64 x.boot,.int .i64 x.net.n,.slice p1a x.net.ls.length p1c,.slice p2a x.net.ts.length p2c,.slice none 0 0,.slice none 0 0] 41):=by
  have k0:=heap_setCell_same _ _ 2 _ _ (.int .i64 x.net.n) HW2.out;have k1:=heap_setCell_same _ _ 3 _ _ (.slice p1a x.net.ls.length p1c) k0;exact heap_setCell_same _ _ 4 _ _ (.slice p2a x.net.ts.length p2c) k1
 have bw3:Below w.heap.size w (((w2.setCell ⟨w.heap.size+1+1,2,none⟩ (.int .i64 x.net.n)).setCell ⟨w.heap.size+1+1,3,none⟩ (.slice p1a x.net.ls.length p1c)).setCell ⟨w.heap.size+1+1,4,none⟩ (.slice p2a x.net.ts.length p2c)):=((bw2.setCell (by show w.heap.size<=w.heap.size+1+1;omega) _).setCell (by show w.heap.size<=w.heap.size+1+1;omega) _).setCell (by show w.heap.size<=w.heap.size+1+1;omega) _
 have z3:(((w2.setCell ⟨w.heap.size+1+1,2,none⟩ (.int .i64 x.net.n)).setCell ⟨w.heap.size+1+1,3,none⟩ (.slice p1a x.net.ls.length p1c)).setCell ⟨w.heap.size+1+1,4,none⟩ (.slice p2a x.net.ts.length p2c)).heap.size=w2.heap.size:=by simp
 generalize (((w2.setCell ⟨w.heap.size+1+1,2,none⟩ (.int .i64 x.net.n)).setCell ⟨w.heap.size+1+1,3,none⟩ (.slice p1a x.net.ls.length p1c)).setCell ⟨w.heap.size+1+1,4,none⟩ (.slice p2a x.net.ts.length p2c))=w3 at *;clear s2 s3 s4 t5 f2 f3 f4 HW0 HW1 HW2 O1 O2;refine (Zmx _ x.heard w3 hlH (HX.out.heard.then bw3)).mono ?_
 rintro e w4 ⟨p3,rfl,ho3,b4⟩;obtain⟨p3a,p3c,rfl⟩:=Zac ho3;have hl3:=Zab q2;rw [<-b4.block _ (Zab q0)] at q0;rw [<-b4.block _ (Zab q1)] at q1;rw [<-b4.block _ hl3] at q2;have hz4:=b4.size;have bw4:Below w.heap.size w w4:=bw3.trans (b4.mono bw3.size);have O1:=hide (Zaf o1 b4 (by omega))
 have O2:=hide (Zaf o2 b4 (by omega))
 have L1:=hide (show ∀ k,(Value.slice p1a x.net.ls.length p1c).ownBlock=some k->k<w3.heap.size from fun k hk=>(o1.lt k hk).2)
 have L2:=hide (show ∀ k,(Value.slice p2a x.net.ts.length p2c).ownBlock=some k->k<w3.heap.size from fun k hk=>(o2.lt k hk).2)
 have O3:=hide ho3;have HW0:=hide q0;have HW1:=hide q1;have HW2:=hide q2;have s5:=Zaa q2 5;have f5:=Zae q2 5;have t6:=Zaa q0 6;simp at s5 t6
 clear o1 o2 ho3 q0 q1 q2
 go_wp2_with fail
 have o1:=ZaM (p:=w.heap.size+1+1) (j:=5) (u:=.slice p3a x.heard.length p3c) O1.out (by omega)
 have o2:=ZaM (p:=w.heap.size+1+1) (j:=5) (u:=.slice p3a x.heard.length p3c) O2.out (by omega)
 have o3:=ZaM (p:=w.heap.size+1+1) (j:=5) (u:=.slice p3a x.heard.length p3c) O3.out (by omega)
 have q1:(w4.setCell ⟨w.heap.size+1+1,5,none⟩ (.slice p3a x.heard.length p3c)).heap[w.heap.size+1]? = some (.cells #[.int .i64 0,.int .i64 0,.int .i64 0,.slice none 0 0,.slice none 0 0,.slice none 0 0,.slice none 0 0] 41):=by
  rw [heap_setCell_other _ ⟨w.heap.size+1+1,5,none⟩ _ _ (by show w.heap.size+1≠w.heap.size+1+1;omega)]
  exact HW1.out
 have q2:(w4.setCell ⟨w.heap.size+1+1,5,none⟩ (.slice p3a x.heard.length p3c)).heap[w.heap.size+1+1]? = some (.cells #[.int .i64 x.id,.int .i64 x.boot,.int .i64 x.net.n,.slice p1a x.net.ls.length p1c,.slice p2a x.net.ts.length p2c,.slice p3a x.heard.length p3c,.slice none 0 0] 41):=heap_setCell_same _ _ 5 _ _ (.slice p3a x.heard.length p3c) HW2.out;have bw5:Below w.heap.size w (w4.setCell ⟨w.heap.size+1+1,5,none⟩ (.slice p3a x.heard.length p3c)):=bw4.setCell (by show w.heap.size<=w.heap.size+1+1;omega) _
 have z5:(w4.setCell ⟨w.heap.size+1+1,5,none⟩ (.slice p3a x.heard.length p3c)).heap.size=w4.heap.size:=by simp
 generalize (w4.setCell ⟨w.heap.size+1+1,5,none⟩ (.slice p3a x.heard.length p3c))=w5 at *;clear s5 t6 f5 HW0 HW1 HW2 O1 O2 O3;refine (Zib _ ps w5 (Nat.le_trans (Zca ps) hlR) (fun _ hp=>Nat.le_trans (Zez hp) hlR) (HX.out.store.then bw5)).mono ?_
 rintro e w6 ⟨p4,qs,rfl,fq,ho4,b6⟩;obtain⟨p4a,p4c,rfl⟩:=Zac ho4.row;have hl5:=Zab q2;rw [<-b6.block _ (Zab q1)] at q1;rw [<-b6.block _ hl5] at q2;have hz6:=b6.size;have bw6:Below w.heap.size w w6:=bw5.trans (b6.mono bw5.size);have hl6:=Zab q2;have OW:=hide (show SelfOwn w6 w1.heap.size w6.heap.size (.slice p1a x.net.ls.length p1c) (.slice p2a x.net.ts.length p2c) (.slice p3a x.heard.length p3c) (.slice p4a qs.length p4c) x qs w3.heap.size w5.heap.size from
  {o1:=by omega
   o2:=by omega
   o3:=by omega
   links:=Zaf o1 b6 (by omega)
   ltop:=L1.out
   things:=Zaf o2 b6 (by omega)
   ttop:=L2.out
   heard:=⟨Zah (Zaf o3 b6 (by omega)) (by omega),fun k hk=>(o3.lt k hk).2⟩
   store:=ho4 })
 have FQ:=hide fq;have r0:=Zaa q1 0;have r1:=Zaa q1 1;have r2:=Zaa q1 2;have r3:=Zaa q1 3;have r4:=Zaa q1 4;have r5:=Zaa q1 5;have r6:=Zaa q1 6;have t0:=Zaa q2 0;have t1:=Zaa q2 1;have t2:=Zaa q2 2;have t3:=Zaa q2 3;have t4:=Zaa q2 4;have t5:=Zaa q2 5;have t6:=Zaa q2 6;have fz0:=Zae q1 0;have fz1:=Zae q1 1;have fz2:=Zae q1 2;have fz3:=Zae q1 3;have fz4:=Zae q1 4;have fz5:=Zae q1 5;have fz6:=Zae q1 6;have e6:=Zae q2 6;simp at r0 r1 r2 r3 r4 r5 r6 t0 t1 t2 t3 t4 t5 t6
 have Q1:=hide q1;have Q2:=hide q2;clear o1 o2 o3 ho4 q1 q2 L1 L2 fq
 go_wp2
 have hfin:((((((((w6.setCell ⟨w.heap.size+1+1,6,none⟩ (.slice p4a qs.length p4c)).setCell ⟨w.heap.size+1,0,none⟩ (.int .i64 x.id)).setCell ⟨w.heap.size+1,1,none⟩ (.int .i64 x.boot)).setCell ⟨w.heap.size+1,2,none⟩ (.int .i64 x.net.n)).setCell ⟨w.heap.size+1,3,none⟩ (.slice p1a x.net.ls.length p1c)).setCell ⟨w.heap.size+1,4,none⟩ (.slice p2a x.net.ts.length p2c)).setCell ⟨w.heap.size+1,5,none⟩ (.slice p3a x.heard.length p3c)).setCell ⟨w.heap.size+1,6,none⟩ (.slice p4a qs.length p4c)).heap[w.heap.size+1]? = some (.cells #[.int .i64 x.id,.int .i64 x.boot,.int .i64 x.net.n,.slice p1a x.net.ls.length p1c,.slice p2a x.net.ts.length p2c,.slice p3a x.heard.length p3c,.slice p4a qs.length p4c] 41):=by
  have k0:(w6.setCell ⟨w.heap.size+1+1,6,none⟩ (.slice p4a qs.length p4c)).heap[w.heap.size+1]? = some (.cells #[.int .i64 0,.int .i64 0,.int .i64 0,.slice none 0 0,.slice none 0 0,.slice none 0 0,.slice none 0 0] 41):=by
   rw [heap_setCell_other _ ⟨w.heap.size+1+1,6,none⟩ _ _ (by show w.heap.size+1≠w.heap.size+1+1;omega)]
   exact Q1.out
  have k1:=heap_setCell_same _ _ 0 _ _ (.int .i64 x.id) k0;have k2:=heap_setCell_same _ _ 1 _ _ (.int .i64 x.boot) k1;have k3:=heap_setCell_same _ _ 2 _ _ (.int .i64 x.net.n) k2;have k4:=heap_setCell_same _ _ 3 _ _ (.slice p1a x.net.ls.length p1c) k3;have k5:=heap_setCell_same _ _ 4 _ _ (.slice p2a x.net.ts.length p2c) k4;have k6:=heap_setCell_same _ _ 5 _ _ (.slice p3a x.heard.length p3c) k5;have k7:=heap_setCell_same _ _ 6 _ _ (.slice p4a qs.length p4c) k6;exact k7
 have hkeep:∀ k,w1.heap.size<=k->((((((((w6.setCell ⟨w.heap.size+1+1,6,none⟩ (.slice p4a qs.length p4c)).setCell ⟨w.heap.size+1,0,none⟩ (.int .i64 x.id)).setCell ⟨w.heap.size+1,1,none⟩ (.int .i64 x.boot)).setCell ⟨w.heap.size+1,2,none⟩ (.int .i64 x.net.n)).setCell ⟨w.heap.size+1,3,none⟩ (.slice p1a x.net.ls.length p1c)).setCell ⟨w.heap.size+1,4,none⟩ (.slice p2a x.net.ts.length p2c)).setCell ⟨w.heap.size+1,5,none⟩ (.slice p3a x.heard.length p3c)).setCell ⟨w.heap.size+1,6,none⟩ (.slice p4a qs.length p4c)).heap[k]? = w6.heap[k]? := fun k hk=>by
  rw [heap_setCell_other _ ⟨w.heap.size+1,6,none⟩ _ _ (by show k≠w.heap.size+1;omega),heap_setCell_other _ ⟨w.heap.size+1,5,none⟩ _ _ (by show k≠w.heap.size+1;omega),heap_setCell_other _ ⟨w.heap.size+1,4,none⟩ _ _ (by show k≠w.heap.size+1;omega),heap_setCell_other _ ⟨w.heap.size+1,3,none⟩ _ _ (by show k≠w.heap.size+1;omega),heap_setCell_other _ ⟨w.heap.size+1,2,none⟩ _ _ (by show k≠w.heap.size+1;omega),heap_setCell_other _ ⟨w.heap.size+1,1,none⟩ _ _ (by show k≠w.heap.size+1;omega),heap_setCell_other _ ⟨w.heap.size+1,0,none⟩ _ _ (by show k≠w.heap.size+1;omega),heap_setCell_other _ ⟨w.heap.size+1+1,6,none⟩ _ _ (by show k≠w.heap.size+1+1;omega)]
 have hsize:((((((((w6.setCell ⟨w.heap.size+1+1,6,none⟩ (.slice p4a qs.length p4c)).setCell ⟨w.heap.size+1,0,none⟩ (.int .i64 x.id)).setCell ⟨w.heap.size+1,1,none⟩ (.int .i64 x.boot)).setCell ⟨w.heap.size+1,2,none⟩ (.int .i64 x.net.n)).setCell ⟨w.heap.size+1,3,none⟩ (.slice p1a x.net.ls.length p1c)).setCell ⟨w.heap.size+1,4,none⟩ (.slice p2a x.net.ts.length p2c)).setCell ⟨w.heap.size+1,5,none⟩ (.slice p3a x.heard.length p3c)).setCell ⟨w.heap.size+1,6,none⟩ (.slice p4a qs.length p4c)).heap.size=w6.heap.size:=by simp
 have hbel:Below w.heap.size w ((((((((w6.setCell ⟨w.heap.size+1+1,6,none⟩ (.slice p4a qs.length p4c)).setCell ⟨w.heap.size+1,0,none⟩ (.int .i64 x.id)).setCell ⟨w.heap.size+1,1,none⟩ (.int .i64 x.boot)).setCell ⟨w.heap.size+1,2,none⟩ (.int .i64 x.net.n)).setCell ⟨w.heap.size+1,3,none⟩ (.slice p1a x.net.ls.length p1c)).setCell ⟨w.heap.size+1,4,none⟩ (.slice p2a x.net.ts.length p2c)).setCell ⟨w.heap.size+1,5,none⟩ (.slice p3a x.heard.length p3c)).setCell ⟨w.heap.size+1,6,none⟩ (.slice p4a qs.length p4c)):=((((((((bw6.setCell (by show w.heap.size<=w.heap.size+1+1;omega) _).setCell (by show w.heap.size<=w.heap.size+1;omega) _).setCell (by show w.heap.size<=w.heap.size+1;omega) _).setCell (by show w.heap.size<=w.heap.size+1;omega) _).setCell (by show w.heap.size<=w.heap.size+1;omega) _).setCell (by show w.heap.size<=w.heap.size+1;omega) _).setCell (by show w.heap.size<=w.heap.size+1;omega) _).setCell (by show w.heap.size<=w.heap.size+1;omega) _)
 try simp only [Exit.inBlock,Exit.then]
 refine bodyPost_ret (results_cell_row rfl _ _ (w.heap.size+1) 41 #[.int .i64 x.id,.int .i64 x.boot,.int .i64 x.net.n,.slice p1a x.net.ls.length p1c,.slice p2a x.net.ts.length p2c,.slice p3a x.heard.length p3c,.slice p4a qs.length p4c] (0,0) _ rfl hfin Tryz.underlying41 rfl (by kernel_rfl)) rfl ?_
 exact⟨_,_,_,_,qs,_,_,rfl,FQ.out,((OW.out.keep (fun k h1 _ _=>hkeep k h1)).low (by omega)).high (by rw [hsize];omega),hbel⟩
theorem Zly (v1 v2 v3 v4 u1 u2 u3 u4:Value)(x:SelfD)(ps qs:List RP)(w:World)(ht:totS x ps<=1048576)(h1:SelfIn w v1 v2 v3 v4 x ps w.heap.size)(h2:SelfIn w u1 u2 u3 u4 x qs w.heap.size)(he:fsts ps=fsts qs):
  Calls Tryz.prog 27 #[Zfp x v1 v2 v3 v4,Zfp x u1 u2 u3 u4] w fun e w'=>e=.returned (.bool true)/\Below w.heap.size w w':=by
 obtain⟨⟨a1,c1,rfl⟩,⟨a2,c2,rfl⟩,⟨a3,c3,rfl⟩,⟨a4,c4,rfl⟩⟩:=h1.shapes;obtain⟨⟨b1,d1,rfl⟩,⟨b2,d2,rfl⟩,⟨b3,d3,rfl⟩,⟨b4,d4,rfl⟩⟩:=h2.shapes;have hlL:x.net.ls.length<=1048576:=by unfold totS at ht;omega
 have hlT:x.net.ts.length<=1048576:=by unfold totS at ht;omega
 have hlH:x.heard.length<=1048576:=by unfold totS at ht;omega
 have hlR:tot ps<=1048576:=by unfold totS at ht;omega
 have H1:=hide h1;have H2:=hide h2;have HE:=hide he;clear h1 h2 he ht
 go_enter Tryz.func27,Tryz.ntmps27
 go_wp2_with fail
 obtain⟨w1,hw1⟩:∃ w1,w1=(w.alloc (.cells #[.int .i64 x.id,.int .i64 x.boot,.int .i64 x.net.n,.slice a1 x.net.ls.length c1,.slice a2 x.net.ts.length c2,.slice a3 x.heard.length c3,.slice a4 ps.length c4] 41)).alloc (.cells #[.int .i64 x.id,.int .i64 x.boot,.int .i64 x.net.n,.slice b1 x.net.ls.length d1,.slice b2 x.net.ts.length d2,.slice b3 x.heard.length d3,.slice b4 qs.length d4] 41):=⟨_,rfl⟩;have B1:Below w.heap.size w w1:=by rw [hw1];exact Zan _ _
 have p0:w1.heap[w.heap.size]? = some (.cells #[.int .i64 x.id,.int .i64 x.boot,.int .i64 x.net.n,.slice a1 x.net.ls.length c1,.slice a2 x.net.ts.length c2,.slice a3 x.heard.length c3,.slice a4 ps.length c4] 41):=by rw [hw1,Below.heap_alloc _ _ _ (by simp),heap_alloc_new]
 have q0:w1.heap[w.heap.size+1]? = some (.cells #[.int .i64 x.id,.int .i64 x.boot,.int .i64 x.net.n,.slice b1 x.net.ls.length d1,.slice b2 x.net.ts.length d2,.slice b3 x.heard.length d3,.slice b4 qs.length d4] 41):=by
  rw [hw1];have:=heap_alloc_new (w.alloc (.cells #[.int .i64 x.id,.int .i64 x.boot,.int .i64 x.net.n,.slice a1 x.net.ls.length c1,.slice a2 x.net.ts.length c2,.slice a3 x.heard.length c3,.slice a4 ps.length c4] 41)) (.cells #[.int .i64 x.id,.int .i64 x.boot,.int .i64 x.net.n,.slice b1 x.net.ls.length d1,.slice b2 x.net.ts.length d2,.slice b3 x.heard.length d3,.slice b4 qs.length d4] 41)
  simpa using this
 rw [<-hw1];clear hw1;have HEN:=Zm3 _ _ x.net x.net w1 (H1.out.then B1).net (H2.out.then B1).net hlL hlT;rw [decide_eq_true rfl] at HEN;refine HEN.mono ?_
 rintro e w2 ⟨rfl,b2⟩;have p1:=(b2.block _ (Zab p0)).trans p0;have q1:=(b2.block _ (Zab q0)).trans q0;have B2:Below w.heap.size w w2:=B1.trans (b2.mono B1.size);have s5:=Zaa p1 5;have t5:=Zaa q1 5;simp at s5 t5
 have P1:=hide p1;have Q1:=hide q1;have HEI:=Zm2 _ _ x.heard x.heard w2 (ZaG.ints (H1.out.then B2).heard) (ZaG.ints (H2.out.then B2).heard) hlH;rw [decide_eq_true rfl] at HEI;have HI:=hide HEI;clear p0 q0 p1 q1 HEN HEI b2
 go_wp2_with fail
 refine HI.out.mono ?_
 rintro e w3 ⟨rfl,b3⟩;have p1:=(b3.block _ (Zab P1.out)).trans P1.out;have q1:=(b3.block _ (Zab Q1.out)).trans Q1.out;have B3:Below w.heap.size w w3:=B2.trans (b3.mono B2.size);have HER:=ZhQ _ _ ps qs w3 (H1.out.then B3).store (H2.out.then B3).store (Nat.le_trans (Zca ps) hlR) (fun _ hp=>Nat.le_trans (Zez hp) hlR)
 rw [decide_eq_true HE.out] at HER;have HR:=hide HER;clear s5 t5;have s6:=Zaa p1 6;have t6:=Zaa q1 6;simp at s6 t6
 clear p1 q1 HER b3
 go_wp2_with fail
 refine HR.out.mono ?_
 rintro e w4 ⟨rfl,b4⟩;have B4:Below w.heap.size w w4:=B3.trans (b4.mono B3.size)
 go_wp2
 go_ret
 exact⟨rfl,B4⟩
theorem Zn8 (l:Th)(w:World):Calls Tryz.prog 49 #[thV l] w fun e w'=>e=.returned (thV l)/\Below w.heap.size w w':=by
 obtain⟨a,b,c,r⟩:=l;unfold thV
 go_enter Tryz.func49,Tryz.ntmps49
 go_wp2
 go_returns
 exact⟨rfl,Zbk _ _ _⟩
theorem Zm1 (l m:Th)(w:World):Calls Tryz.prog 60 #[thV l,thV m] w fun e w'=>e=.returned (.bool (decide (l=m)))/\Below w.heap.size w w':=by
 obtain⟨a,b,c,r⟩:=l;obtain⟨a',b',c',r'⟩:=m;unfold thV
 go_enter Tryz.func60,Tryz.ntmps60
 go_wp2
 all_goals go_returns
 all_goals refine ⟨?_,Zan _ _⟩
 all_goals first
  | exact ZaA (fun h=>by cases h;simp_all)
  | exact ZaV (by simp_all)
theorem Zmq (a:Option Addr)(n c:Nat)(q:Int)(w:World)(hn:(n:Int)<=9223372036854775807)(hq0:0<=q)(hq:q<=1048576):
  Calls Tryz.prog 17 #[.slice a n c,.int .i64 q] w fun e w'=>e=.returned (.int .i64 (if q-(n:Int)<0 then -1 else q-(n:Int)))/\w=w':=by
 by_cases h:q-(n:Int)<0
 ·rw [if_pos h]
  go_enter Tryz.func17,Tryz.ntmps17
  go_wp2
  go_ret
  exact⟨rfl,rfl⟩
 ·rw [if_neg h]
  go_enter Tryz.func17,Tryz.ntmps17
  go_wp2
  go_ret
  exact⟨rfl,rfl⟩
theorem Tryz.infoEar:(Tryz.prog.info? 58).map (fun i=>(i.zero,i.size,i.bytes))=some (some (thV th0),4,32):=by kernel_rfl
theorem Zmw (v:Value)(ls:List Th)(w:World)(hls:ls.length<=1048576)(hv:ZaP w v ls w.heap.size):
  Calls Tryz.prog 24 #[v] w fun e w'=>∃ x,e=.returned x/\w'.ownsRow w.heap.size 58 4 x ls.length (flat thE ls)/\Below w.heap.size w w':=by
 obtain⟨a,cap,rfl⟩:=hv.shape;have HV:=hide hv;clear hv;obtain⟨i0,hi,hz0,hz1,hz2⟩:=info_parts Tryz.infoEar;have HI:=hide hi;have HZ:=hide hz0;clear hi hz0
 go_enter Tryz.func24,Tryz.ntmps24
 go_wp2_with (first
  | (refine Za8 Zdz (by omega) _ rfl _ _ 42 rfl w.heap.size 58 i0 (thV th0) th0 rfl Tryz.underlying42 HI.out HZ.out hz1 ls.length rfl rfl (by rw [hz2];omega) (by unfold maxLen;omega) (Nat.le_refl _) ?_))
 intro w1 hown hg;have b1:Below w.heap.size w w1:=(Below.refl _ _).grown hg (Nat.le_refl _) (fun k hk=>by simp at hk)
 have hg1:w.heap.size<w1.heap.size:=by
  rcases hown.2 with ⟨h0,_⟩ | ⟨g,cp,cur,hv,_,hh,_⟩
  ·cases h0
  ·cases hv;exact Zab hh
 have OW:=hide hown;clear hown hg
 go_wp2
 go_loopw [4] (fun i wr=>∃ k:Nat,k<=ls.length/\i=.int .i64 k/\wr.ownsRow w.heap.size 58 4 (.slice (some ⟨w.heap.size,0,none⟩) ls.length ls.length) ls.length (flat thE (part ls th0 k))/\Below w.heap.size w wr) (fun i _=>ls.length-(intOf i).toNat)
 case atStart=>exact ⟨0,by omega,rfl,(by simpa [part] using OW.out),b1⟩
 case round=>
  obtain⟨k,hk,rfl,hown,hnx⟩:=hrel;by_cases hlt:k<ls.length
  ·obtain ⟨l,hl⟩:∃ l,ls[k]? = some l:=⟨ls[k],List.getElem?_eq_getElem hlt⟩
   obtain⟨b,off,cap',hve,hbb,c0,c1,c2,c3⟩:=HV.out.cells k l hl;cases hve
   rw [<-hnx.cell (p:=⟨b,off+k*4,none⟩) hbb] at c0;rw [<-hnx.cell (p:=⟨b,off+k*4+1,none⟩) hbb] at c1;rw [<-hnx.cell (p:=⟨b,off+k*4+2,none⟩) hbb] at c2;rw [<-hnx.cell (p:=⟨b,off+k*4+3,none⟩) hbb] at c3;have HL:=hide hl;have OW2:=hide hown;clear hl hown;have hki:(0:Int)<=(k:Int):=by omega
   have hkj:(k:Int)<(ls.length:Int):=by omega
   have hto:=Zn8 l;unfold thV at hto;have HTO:=hide hto;clear hto
   go_wp2_with fail
   refine (HTO.out _).mono ?_
   rintro e w2 ⟨rfl,b2⟩;have hown2:=Zaf OW2.out b2 (Nat.le_refl _);have hex:∀ r,r<4->∃ u,w2.cell? ⟨w.heap.size,k*4+r,none⟩=some u:=fun r hr=>by
    have hj:k*4+r<ls.length*4:=by omega
    rw [hown2.cellAt _ hj];have hln:k*4+r<(flat thE (part ls th0 k)).length:=by rw [hown2.1];exact hj
    exact⟨_,List.getElem?_eq_getElem hln⟩
   obtain⟨u0,d0⟩:=hex 0 (by omega)
   obtain⟨u1,d1⟩:=hex 1 (by omega)
   obtain⟨u2,d2⟩:=hex 2 (by omega)
   obtain⟨u3,d3⟩:=hex 3 (by omega)
   rw [Nat.add_zero] at d0;have f0:=hown2.frozenAt (k*4);have f1:=hown2.frozenAt (k*4+1);have f2:=hown2.frozenAt (k*4+2);have f3:=hown2.frozenAt (k*4+3);have OW3:=hide hown2;clear hown2 hex
   go_wp2
   refine⟨⟨k+1,by omega,by go_num,?_,((((hnx.trans (b2.mono hnx.size)).setCell (Nat.le_refl _) _).setCell (Nat.le_refl _) _).setCell (Nat.le_refl _) _).setCell (Nat.le_refl _) _⟩,by simp [intOf];omega⟩
   have h4:=((((OW3.out.stored (k*4) (.int .i64 l.o)).1.stored (k*4+1) (.int .i64 l.k)).1.stored (k*4+2) (.int .i64 l.c)).1.stored (k*4+3) (.bool l.f)).1;have e4:((((flat thE (part ls th0 k)).set (k*4) (.int .i64 l.o)).set (k*4+1) (.int .i64 l.k)).set (k*4+2) (.int .i64 l.c)).set (k*4+3) (.bool l.f)=flat thE (part ls th0 (k+1)):=by
    rw [<-ZdN ls th0 l k HL.out, <-ZbQ Zdz _ _ _ (by rw [ZeU _ _ _ hk];exact hlt)]
    rfl
   rw [e4] at h4;exact h4
  ·have hkn:k=ls.length:=by omega
   have KN:=hide hkn;have OW2:=hide hown;clear hkn hown
   go_wp2
   go_ret
   refine⟨_,rfl,?_,hnx⟩
   have h:=OW2.out;rw [KN.out,ZeT] at h;exact h
theorem Zlu (v1 v2:Value)(xs ys:List Th)(w:World)(h1:ZaP w v1 xs w.heap.size)(h2:ZaP w v2 ys w.heap.size)(hn:xs.length<=1048576):
  Calls Tryz.prog 28 #[v1,v2] w fun e w'=>e=.returned (.bool (decide (xs=ys)))/\Below w.heap.size w w':=by
 obtain⟨a1,c1,rfl⟩:=h1.shape;obtain⟨a2,c2,rfl⟩:=h2.shape;by_cases hl:xs.length=ys.length
 ·have K1:=hide h1
  have K2:=hide h2;have HLN:=hide hl;rw [<-hl];clear h1 h2 hl
  go_enter Tryz.func28,Tryz.ntmps28
  go_wp2
  go_loopw [5] (fun i wr=>∃ k:Nat,k<=xs.length/\i=.int .i64 k/\(∀ j,j<k->xs[j]? = ys[j]?)/\Below w.heap.size w wr) (fun i _=>xs.length-(intOf i).toNat)
  case atStart=>exact ⟨0,by omega,rfl,by omega,Below.refl _ _⟩
  case round=>
   obtain⟨k,hk,rfl,hall,hnx⟩:=hrel;have HALL:=hide hall;clear hall;by_cases hlt:k<xs.length
   ·obtain ⟨x,hx⟩:∃ l,xs[k]? = some l:=⟨xs[k],List.getElem?_eq_getElem hlt⟩
    obtain⟨y,hy⟩:∃ l,ys[k]? = some l:=⟨ys[k],List.getElem?_eq_getElem (by have:=HLN.out;omega)⟩
    obtain⟨b1,o1,cp1,hv1,hb1,c0,c1',c2',c3⟩:=K1.out.cells k x hx;obtain⟨b2,o2,cp2,hv2,hb2,d0,d1,d2,d3⟩:=K2.out.cells k y hy;cases hv1
    cases hv2
    rw [<-hnx.cell (p:=⟨b1,o1+k*4,none⟩) hb1] at c0;rw [<-hnx.cell (p:=⟨b1,o1+k*4+1,none⟩) hb1] at c1';rw [<-hnx.cell (p:=⟨b1,o1+k*4+2,none⟩) hb1] at c2';rw [<-hnx.cell (p:=⟨b1,o1+k*4+3,none⟩) hb1] at c3;rw [<-hnx.cell (p:=⟨b2,o2+k*4,none⟩) hb2] at d0;rw [<-hnx.cell (p:=⟨b2,o2+k*4+1,none⟩) hb2] at d1;rw [<-hnx.cell (p:=⟨b2,o2+k*4+2,none⟩) hb2] at d2;rw [<-hnx.cell (p:=⟨b2,o2+k*4+3,none⟩) hb2] at d3;have hzr:=hnx.size;have hb1':b1<wr.heap.size:=by omega
    have hb2':b2<wr.heap.size:=by omega
    have hki:(0:Int)<=(k:Int):=by omega
    have hkj:(k:Int)<(xs.length:Int):=by omega
    have hq:=Zm1 x y;unfold thV at hq;obtain⟨q,hqq⟩:∃ q,q=decide (x=y):=⟨_,rfl⟩;rw [<-hqq] at hq;have HQ:=hide hq;have HQQ:=hide hqq;have HX:=hide hx;have HY:=hide hy;clear hq hqq hx hy;cases q
    ·go_wp2
     go_region_held3 (fun W=>W.cell? ⟨b1,o1+k*4,none⟩=some (.int .i64 x.o)/\W.cell? ⟨b1,o1+k*4+1,none⟩=some (.int .i64 x.k)/\W.cell? ⟨b1,o1+k*4+2,none⟩=some (.int .i64 x.c)/\W.cell? ⟨b1,o1+k*4+3,none⟩=some (.bool x.f)/\W.cell? ⟨b2,o2+k*4,none⟩=some (.int .i64 y.o)/\W.cell? ⟨b2,o2+k*4+1,none⟩=some (.int .i64 y.k)/\W.cell? ⟨b2,o2+k*4+2,none⟩=some (.int .i64 y.c)/\W.cell? ⟨b2,o2+k*4+3,none⟩=some (.bool y.f)) (first | go_keep | (refine ⟨?_,?_,?_,?_,?_,?_,?_,?_⟩ <;> (rw [hbc.cell (by assumption)];assumption))) (first | (go_at_call 60;refine (HQ.out _).mono ?_;rintro e w1 ⟨rfl,hbc⟩))
     go_wp2
     go_ret
     exact⟨ZaA (ZlY HX.out HY.out (of_decide_eq_false HQQ.out.symm)),hnx.trans ((Below.refl _ _).drew.trans (hbc.mono hzr))⟩
    ·go_wp2
     go_region_held3 (fun W=>W.cell? ⟨b1,o1+k*4,none⟩=some (.int .i64 x.o)/\W.cell? ⟨b1,o1+k*4+1,none⟩=some (.int .i64 x.k)/\W.cell? ⟨b1,o1+k*4+2,none⟩=some (.int .i64 x.c)/\W.cell? ⟨b1,o1+k*4+3,none⟩=some (.bool x.f)/\W.cell? ⟨b2,o2+k*4,none⟩=some (.int .i64 y.o)/\W.cell? ⟨b2,o2+k*4+1,none⟩=some (.int .i64 y.k)/\W.cell? ⟨b2,o2+k*4+2,none⟩=some (.int .i64 y.c)/\W.cell? ⟨b2,o2+k*4+3,none⟩=some (.bool y.f)) (first | go_keep | (refine ⟨?_,?_,?_,?_,?_,?_,?_,?_⟩ <;> (rw [hbc.cell (by assumption)];assumption))) (first | (go_at_call 60;refine (HQ.out _).mono ?_;rintro e w1 ⟨rfl,hbc⟩))
     go_wp2
     go_roundw
     case rel=>exact ⟨k+1,by omega,by go_num,(fun j hj=>by
      by_cases e:j=k
      ·subst e;rw [HX.out,HY.out,of_decide_eq_true HQQ.out.symm]
      ·exact HALL.out j (by omega)),hnx.trans ((Below.refl _ _).drew.trans (hbc.mono hzr))⟩
     case measure=>simp [intOf];omega
   ·have hkn:k=xs.length:=by omega
    have KN:=hide hkn;clear hkn
    go_wp2
    go_ret
    exact⟨ZaV (Zg2 HLN.out (by rw [<-KN.out];exact HALL.out)),hnx⟩
 ·clear h1 h2
  have hd:((xs.length:Int) != (ys.length:Int))=true:=by simp;omega
  go_enter Tryz.func28,Tryz.ntmps28
  go_wp2
  go_ret
  exact⟨ZaA (fun h=>hl (by rw [h])),Below.refl _ _⟩
end Go.Proofs.YtnndlmodjkplnaaGreatDoor
