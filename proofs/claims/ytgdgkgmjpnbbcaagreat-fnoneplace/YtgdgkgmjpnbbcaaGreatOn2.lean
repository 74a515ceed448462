/-
  RowsK RowsL CopyK RowsM PushK SameS IKey InB IsIn BefS Reg IBef
-/
import Derived.Test.YtgdgkgmjpnbbcaaGreatOn1
import Derived.Laws.AppendOwnNone
import Derived.Laws.StructEq
import Derived.Deep.RegionHeld3
import Derived.ChangeKeysEq
namespace Go.Proofs.YtgdgkgmjpnbbcaaGreat
open Go.RowKit
set_option linter.unusedSimpArgs false
set_option linter.unusedVariables false
set_option maxRecDepth 100000
set_option maxHeartbeats 8000000
abbrev RP:=RecD × Value
def encP (p:RP):List Value:=[.int .i64 p.1.area,.int .i64 p.1.kind,.int .i64 p.1.owner,.int .i64 p.1.key,.int .i64 p.1.seq,p.2,.int .i64 p.1.cost,.bool p.1.far]
theorem Zbb (p:RP):(encP p).length=8:=rfl
def ZbM:RecD:=⟨0,0,0,0,0,[],0,false⟩
def ZbK (W:World)(v:Value)(ps:List RP)(B:Nat):Prop:=Za5 encP 8 W v ps B/\∀ p∈ps,ZaB W p.2 p.1.near B
theorem ZbK.shape {W:World}{v:Value}{ps:List RP}{B:Nat}(h:ZbK W v ps B):∃ a cap,v=.slice a ps.length cap:=by
 obtain⟨⟨a,cap,h,_⟩,_⟩:=h;exact⟨a,cap,h⟩
theorem ZbK.later {W W':World}{v:Value}{ps:List RP}{B C:Nat}(h:ZbK W v ps B)(hb:Below C W W')(hBC:B<=C):ZbK W' v ps B:=
 ⟨ZaR.later h.1 hb hBC,fun p hp=>ZaR.later (h.2 p hp) hb hBC⟩
theorem ZbK.more {W:World}{v:Value}{ps:List RP}{B C:Nat}(h:ZbK W v ps B)(hBC:B<=C):ZbK W v ps C:=
 ⟨ZaR.more h.1 hBC,fun p hp=>ZaR.more (h.2 p hp) hBC⟩
theorem ZbK.then {W W':World}{v:Value}{ps:List RP}(h:ZbK W v ps W.heap.size)(hb:Below W.heap.size W W'):ZbK W' v ps W'.heap.size:=(h.later hb (Nat.le_refl _)).more hb.size
theorem ZbK.cells {W:World}{v:Value}{ps:List RP}{B:Nat}(h:ZbK W v ps B)(i:Nat)(p:RP)(hp:ps[i]? = some p):
  ∃ b off cap,v=.slice (some ⟨b,off,none⟩) ps.length cap/\b<B/\W.cell? ⟨b,off+i*8,none⟩=some (.int .i64 p.1.area)/\W.cell? ⟨b,off+i*8+1,none⟩=some (.int .i64 p.1.kind)/\W.cell? ⟨b,off+i*8+2,none⟩=some (.int .i64 p.1.owner)/\W.cell? ⟨b,off+i*8+3,none⟩=some (.int .i64 p.1.key)/\W.cell? ⟨b,off+i*8+4,none⟩=some (.int .i64 p.1.seq)/\W.cell? ⟨b,off+i*8+5,none⟩=some p.2/\W.cell? ⟨b,off+i*8+6,none⟩=some (.int .i64 p.1.cost)/\W.cell? ⟨b,off+i*8+7,none⟩=some (.bool p.1.far)/\ZaB W p.2 p.1.near B:=by
 obtain⟨b,off,cap,hv,hb,hc⟩:=Za5.cell h.1 Zbb i p hp;exact⟨b,off,cap,hv,hb,hc 0 _ rfl,hc 1 _ rfl,hc 2 _ rfl,hc 3 _ rfl,hc 4 _ rfl,hc 5 _ rfl,hc 6 _ rfl,hc 7 _ rfl,h.2 p (List.mem_of_getElem? hp)⟩
def ZaJ (W:World)(lo hi:Nat)(p:RP):Prop:=W.ownsRow lo 62 2 p.2 p.1.near.length (flat nrE p.1.near)/\∀ k,p.2.ownBlock=some k->k<hi
def ZfZ (p q:RP):Prop:=∀ k,p.2.ownBlock=some k->q.2.ownBlock≠some k
structure RecsOwn (W:World) (lo hi:Nat) (v:Value) (ps:List RP):Prop where
 row:W.ownsRow lo 59 8 v ps.length (flat encP ps)
 top:∀ k,v.ownBlock=some k->k<hi
 nears:∀ p∈ps,ZaJ W lo hi p
 apart:ps.Pairwise ZfZ
theorem Zao {W W':World}{base size:Nat}{e:TypeId}{v:Value}{n:Nat}{xs:List Value}(h:W.ownsRow base e size v n xs)(hk:∀ k,v.ownBlock=some k->W'.heap[k]? = W.heap[k]?):W'.ownsRow base e size v n xs:=by
 refine⟨h.1,?_⟩
 rcases h.2 with h2 | ⟨g,cap,cur,hv,hg,hh,r⟩
 ·exact .inl h2
 ·exact .inr ⟨g,cap,cur,hv,hg,by rw [hk g (by rw [hv];rfl)];exact hh,r⟩
theorem ZaJ.keep {W W':World}{lo hi:Nat}{p:RP}(h:ZaJ W lo hi p)(hk:∀ k,lo<=k->k<hi->k<W.heap.size->W'.heap[k]? = W.heap[k]?):ZaJ W' lo hi p:=
 ⟨Zao h.1 (fun k e=>hk k (h.1.lt k e).1 (h.2 k e) (h.1.lt k e).2),h.2⟩
theorem ZaJ.wide {W:World}{lo hi lo' hi':Nat}{p:RP}(h:ZaJ W lo hi p)(hl:lo'<=lo)(hh:hi<=hi'):ZaJ W lo' hi' p:=
 ⟨Zah h.1 hl,fun k e=>Nat.lt_of_lt_of_le (h.2 k e) hh⟩
theorem ZaJ.at {W:World}{lo hi:Nat}{p:RP}(h:ZaJ W lo hi p):ZaB W p.2 p.1.near hi:=by
 have h1:=Zar h.1;obtain⟨a,cap,hv,h2⟩:=h1;refine⟨a,cap,hv,?_⟩
 rcases h2 with h0 | ⟨b,off,ha,hb1,hx⟩
 ·exact .inl h0
 ·exact .inr ⟨b,off,ha,h.2 b (by rw [hv,ha];rfl),hx⟩
theorem RecsOwn.keep {W W':World}{lo hi:Nat}{v:Value}{ps:List RP}(h:RecsOwn W lo hi v ps)(hk:∀ k,lo<=k->k<hi->k<W.heap.size->W'.heap[k]? = W.heap[k]?):RecsOwn W' lo hi v ps where
 row:=Zao h.row (fun k e=>hk k (h.row.lt k e).1 (h.top k e) (h.row.lt k e).2)
 top:=h.top
 nears:=fun p hp=>(h.nears p hp).keep hk
 apart:=h.apart
theorem RecsOwn.below {W W':World}{lo hi B:Nat}{v:Value}{ps:List RP}(h:RecsOwn W lo hi v ps)(hb:Below B W W')(hB:hi<=B):RecsOwn W' lo hi v ps:=h.keep (fun k _ h2 _=>hb.block k (by omega))
theorem RecsOwn.wide {W:World}{lo hi lo' hi':Nat}{v:Value}{ps:List RP}(h:RecsOwn W lo hi v ps)(hl:lo'<=lo)(hh:hi<=hi'):RecsOwn W lo' hi' v ps where
 row:=Zah h.row hl
 top:=fun k e=>Nat.lt_of_lt_of_le (h.top k e) hh
 nears:=fun p hp=>(h.nears p hp).wide hl hh
 apart:=h.apart
theorem RecsOwn.at {W:World}{lo hi:Nat}{v:Value}{ps:List RP}(h:RecsOwn W lo hi v ps):ZbK W v ps hi:=by
 refine⟨?_,fun p hp=>(h.nears p hp).at⟩
 have h1:=Zar h.row;obtain⟨a,cap,hv,h2⟩:=h1;refine⟨a,cap,hv,?_⟩
 rcases h2 with h0 | ⟨b,off,ha,hb1,hx⟩
 ·exact .inl h0
 ·exact .inr ⟨b,off,ha,h.top b (by rw [hv,ha];rfl),hx⟩
structure Frame (lo hi:Nat) (w w':World):Prop where
 os:w'.os=w.os
 tape:w'.tape=w.tape
 output:w'.output=w.output
 size:w.heap.size<=w'.heap.size
 block:∀ k,k<w.heap.size->(k<lo\/hi<=k)->w'.heap[k]? = w.heap[k]?
theorem Frame.refl (lo hi:Nat)(w:World):Frame lo hi w w:=⟨rfl,rfl,rfl,Nat.le_refl _,fun _ _ _=>rfl⟩
theorem Frame.trans {lo hi:Nat}{a b c:World}(h:Frame lo hi a b)(k:Frame lo hi b c):Frame lo hi a c:=
 ⟨k.os.trans h.os,k.tape.trans h.tape,k.output.trans h.output,Nat.le_trans h.size k.size,fun i hi hr=>(k.block i (Nat.lt_of_lt_of_le hi h.size) hr).trans (h.block i hi hr)⟩
theorem Frame.grown {lo hi:Nat}{a b:World}{row:Option Nat}(g:a.grownBy b row)(hr:∀ k,row=some k->lo<=k/\k<hi):Frame lo hi a b:=
 ⟨g.os,g.tape,g.output,g.size,fun k hk hh=>g.block k hk (fun e=>by have:=hr k e.symm;omega)⟩
theorem Frame.set {lo hi:Nat}(w:World)(p j:Nat)(u:Value)(h1:lo<=p)(h2:p<hi):Frame lo hi w (w.setCell ⟨p,j,none⟩ u):=Frame.grown (Zal w p j u) (fun k e=>by simp at e;omega)
theorem Frame.below {lo hi:Nat}{w w':World}(h:Frame lo hi w w')(hw:lo<=w.heap.size):Below lo w w':=(Below.refl _ _).trans ⟨h.os,h.tape,h.output,h.size,fun k hk=>h.block k (by omega) (.inl hk)⟩
theorem RecsOwn.frame {W W':World}{lo hi l2 h2:Nat}{v:Value}{ps:List RP}(h:RecsOwn W lo hi v ps)(hb:Frame l2 h2 W W')(hB:hi<=l2\/h2<=lo):RecsOwn W' lo hi v ps:=h.keep (fun k h1 h2 h3=>hb.block k h3 (by omega))
abbrev putP (W:World) (g o:Nat) (p:RP):World:=(((((((W.setCell ⟨g,o,none⟩ (.int .i64 p.1.area)).setCell ⟨g,o+1,none⟩ (.int .i64 p.1.kind)).setCell ⟨g,o+2,none⟩ (.int .i64 p.1.owner)).setCell ⟨g,o+3,none⟩ (.int .i64 p.1.key)).setCell ⟨g,o+4,none⟩ (.int .i64 p.1.seq)).setCell ⟨g,o+5,none⟩ p.2).setCell ⟨g,o+6,none⟩ (.int .i64 p.1.cost)).setCell ⟨g,o+7,none⟩ (.bool p.1.far)
theorem Zht (W:World)(g o:Nat)(p:RP):W.grownBy (putP W g o p) (some g):=
 Zai (Zai (Zai (Zai (Zai (Zai (Zai (Zal W g _ _) (Zal _ g _ _)) (Zal _ g _ _)) (Zal _ g _ _)) (Zal _ g _ _)) (Zal _ g _ _)) (Zal _ g _ _)) (Zal _ g _ _)
theorem ZmP {W:World}{base g cap n j:Nat}{xs:List RP}{p:RP}(h:W.ownsRow base 59 8 (.slice (some ⟨g,0,none⟩) n cap) n (flat encP xs))(hj:j<xs.length):
  (putP W g (j*8) p).ownsRow base 59 8 (.slice (some ⟨g,0,none⟩) n cap) n (flat encP (xs.set j p)):=by
 have e:(((((((((flat encP xs).set (j*8) (.int .i64 p.1.area)).set (j*8+1) (.int .i64 p.1.kind)).set (j*8+2) (.int .i64 p.1.owner)).set (j*8+3) (.int .i64 p.1.key)).set (j*8+4) (.int .i64 p.1.seq)).set (j*8+5) p.2).set (j*8+6) (.int .i64 p.1.cost)).set (j*8+7) (.bool p.1.far))=flat encP (xs.set j p):=ZhX Zbb xs j p hj;rw [<-e];exact ((((((((h.stored (j*8) _).1.stored (j*8+1) _).1.stored (j*8+2) _).1.stored (j*8+3) _).1.stored (j*8+4) _).1.stored (j*8+5) _).1.stored (j*8+6) _).1.stored (j*8+7) _).1
theorem ZlL {W:World}{lo hi:Nat}{ps:List RP}{p:RP}(h:ps.Pairwise ZfZ)(hn:∀ q∈ps,ZaJ W lo hi q)(hp:∀ k,p.2.ownBlock=some k->hi<=k):(ps++[p]).Pairwise ZfZ:=by
 rw [List.pairwise_append];refine⟨h,by simp,?_⟩
 intro a ha b hb;have:b=p:=by simpa using hb
 subst this;intro k hk he;have h1:=(hn a ha).2 k hk;have h2:=hp k he;omega
def tot (ps:List RP):Nat:=(ps.map (fun p=>1+p.1.near.length)).sum
theorem Zcs (p:RP)(ps:List RP):tot (p::ps)=1+p.1.near.length+tot ps:=by simp [tot]
theorem Zdu (a b:List RP):tot (a++b)=tot a+tot b:=by simp [tot]
theorem ZbI (ps:List RP):ps.length<=tot ps:=by
 induction ps with
 | nil=>simp [tot]
 | cons p ps ih=>rw [Zcs,List.length_cons];omega
theorem ZgX {ps:List RP}{p:RP}(h:p∈ps):p.1.near.length<=tot ps:=by
 induction ps with
 | nil=>simp at h
 | cons q ps ih=>
  rw [Zcs]
  rcases List.mem_cons.1 h with rfl | h1
  ·omega
  ·have:=ih h1;omega
theorem Zpn {ps qs:List RP}(h:ps.map (·.1)=qs.map (·.1)):tot ps=tot qs:=by
 have e:∀ l:List RP,tot l=((l.map (·.1)).map (fun x=>1+x.near.length)).sum:=fun l=>by simp [tot,List.map_map,Function.comp_def]
 rw [e,e,h]
theorem map_take {ps:List RP}{k:Nat}{p:RP}(h:ps[k]? = some p):(ps.take (k+1)).map (·.1)=(ps.take k).map (·.1)++[p.1]:=by
 obtain⟨hk,e⟩:=List.getElem?_eq_some_iff.1 h;rw [List.take_succ_eq_append_getElem hk,List.map_append,e]
 rfl
theorem Tryz.infoRec:(Tryz.prog.info? 59).map (fun i=>(i.zero,i.size,i.bytes))=some (some (.agg (recC ZbM (.slice none 0 0))),8,80):=by kernel_rfl
def fsts (ps:List RP):List RecD:=ps.map (·.1)
theorem Zbo {ps:List RP}{i:Nat}{p:RP}(h:ps[i]? = some p):(fsts ps)[i]? = some p.1:=by simp [fsts,h]
theorem ZnX (a:Nr):∀ u∈nrE a,u.oneCell'=true:=by
 intro u hu;simp [nrE] at hu
 rcases hu with rfl | rfl <;> rfl
theorem Zch {α:Type}{enc:α->List Value}{sz bytes:Nat}(hlen:∀ l:List α,(flat enc l).length=l.length*sz)(hpos:0<sz)(hone:∀ a,∀ u∈enc a,u.oneCell'=true)(hbb:bytes<=100){P:Program}(w:World){ops:Array Oper}{rest:List Oper}{o:Oper}{a:Act}{Q:Exit->Act->World->Prop}(hgd:o.guard=none)(s x:Operand)(t:TypeId)
  (ho:o.op=.call { callee:=.builtin .append,args:=#[s,x],argTypes:=#[t,t] }) (base:Nat) (e:TypeId) (ht:P.underlying t=some (.slice e)) (zv:Value) (hzv:zv.cells.size=sz)
  (hinfo:(P.info? e).map (fun i=>(i.zero,i.size,i.bytes))=some (some zv,sz,bytes))
  (v:Value) (l:List α) (hs:a.eval s=v) (hown:w.ownsRow base e sz v l.length (flat enc l))
  (base2:Nat) (v2:Value) (l2:List α) (hx:a.eval x=v2) (hown2:w.ownsRow base2 e sz v2 l2.length (flat enc l2))
  (hl:l.length+l2.length<=1000000000) (hbase:base<=w.heap.size)
  (h:∀ v' w',w'.ownsRow base e sz v' (l++l2).length (flat enc (l++l2))->w.grownBy w' v.ownBlock->wpList P ops Q rest (a.put o.dst v') w'):wpList P ops Q (o::rest) a w:=by
 obtain⟨i0,hi,hz0,hz1,hz2⟩:=info_parts hinfo
 rcases hown2.2 with ⟨e1,e2⟩ | ⟨g,cap,cur,e1,_⟩
 ·have e3:l2=[]:=List.eq_nil_of_length_eq_zero e2
  subst e3;refine wpList_append_own_none hgd s x t ho base e i0 sz ht hi v l.length (flat enc l) hs hown (hx.trans e1) ?_
  exact h v w (by simpa using hown) (ZcL w _)
 ·refine wpList_append_own w hgd s x t ho base e i0 zv sz bytes ht hi hz0 hz1 hz2 hzv hpos v l.length (flat enc l) hs hown ⟨g,0,none⟩ l2.length cap (flat enc l2) (hx.trans e1) (hlen l2) (hown2.cells (by rw [e1];rfl)) ?_ (by unfold maxLen;omega) ?_ hbase ?_
  ·intro u hu
   simp only [flat,List.mem_flatMap] at hu
   obtain⟨b,_,hb⟩:=hu;exact hone b u hb
  ·have:(l.length+l2.length)*bytes<=1000000000*100:=Nat.mul_le_mul hl hbb
   omega
  ·intro v' w' h1 h2 _
   have e1:flat enc l++flat enc l2=flat enc (l++l2):=by rw [ZaD]
   rw [e1] at h1;exact h v' w' (by simpa using h1) h2
abbrev Zll (W:World) (g:Nat) (x:RecD) (v:Value):World:=(((((((W.setCell ⟨g,0,none⟩ (.int .i64 x.area)).setCell ⟨g,1,none⟩ (.int .i64 x.kind)).setCell ⟨g,2,none⟩ (.int .i64 x.owner)).setCell ⟨g,3,none⟩ (.int .i64 x.key)).setCell ⟨g,4,none⟩ (.int .i64 x.seq)).setCell ⟨g,5,none⟩ v).setCell ⟨g,6,none⟩ (.int .i64 x.cost)).setCell ⟨g,7,none⟩ (.bool x.far)
theorem ZoU {W:World}{B0:Nat}{c0 c1 c2 c3 c4 c5 c6 c7:Value}(x:RecD)(v:Value)(hr:W.heap[B0]? = some (.cells #[c0,c1,c2,c3,c4,c5,c6,c7] 59)):
  (Zll W B0 x v).heap[B0]? = some (.cells (recC x v) 59):=by
 have k1:=heap_setCell_same _ _ 0 _ _ (.int .i64 x.area) hr;have k2:=heap_setCell_same _ _ 1 _ _ (.int .i64 x.kind) k1;have k3:=heap_setCell_same _ _ 2 _ _ (.int .i64 x.owner) k2;have k4:=heap_setCell_same _ _ 3 _ _ (.int .i64 x.key) k3;have k5:=heap_setCell_same _ _ 4 _ _ (.int .i64 x.seq) k4;have k6:=heap_setCell_same _ _ 5 _ _ v k5;have k7:=heap_setCell_same _ _ 6 _ _ (.int .i64 x.cost) k6;have k8:=heap_setCell_same _ _ 7 _ _ (.bool x.far) k7;simp only [List.setIfInBounds_toArray,List.set_cons_zero,List.set_cons_succ] at k8
 unfold Zll recC;exact k8
theorem ZjD (W:World)(g:Nat)(x:RecD)(v:Value):W.grownBy (Zll W g x v) (some g):=
 Zai (Zai (Zai (Zai (Zai (Zai (Zai (Zal W g _ _) (Zal _ g _ _)) (Zal _ g _ _)) (Zal _ g _ _)) (Zal _ g _ _)) (Zal _ g _ _)) (Zal _ g _ _)) (Zal _ g _ _)
theorem ZnZ (l:List Nr):(flat nrE l).length=l.length*2:=ZaX ZjX l
theorem ZmI (W:World)(g base:Nat)(hg:g=W.heap.size)(hb:base<=W.heap.size):(W.alloc (.cells #[] 62)).ownsRow base 62 2 (.slice (some ⟨g,0,none⟩) 0 0) 0 (flat nrE []):=by
 subst hg;exact World.ownsRow_lit W #[] 0 hb (by unfold maxLen;omega) (by simp)
theorem ZlZ (x:RecD)(v:Value)(base:Nat)(w:World)(ho:w.ownsRow base 62 2 v x.near.length (flat nrE x.near))(hn:x.near.length<=1048576):
  Calls Tryz.prog 54 #[.agg (recC x v)] w fun e w'=>∃ v',e=.returned (.agg (recC x v'))/\w'.ownsRow w.heap.size 62 2 v' x.near.length (flat nrE x.near)/\Below w.heap.size w w':=by
 obtain⟨va,vc,rfl⟩:=Zac ho;have OW:=hide ho;clear ho
 go_enter Tryz.func54,Tryz.ntmps54
 unfold recC
 go_wp2_with (first
  | (at_builtin;refine Zch ZnZ (by omega) ZnX (by omega) _ rfl _ _ 57 rfl (w.heap.size+2) 62 Tryz.underlying57 (nrV nr0) rfl Tryz.infoNr _ [] rfl ?own0 base _ x.near rfl (((OW.out.alloc _).alloc _).alloc _) (by simp;omega) (by simp) ?_))
 case own0=>
  exact ZmI _ _ _ (by simp) (by simp)
 intro v' w4 hown' hgrow;obtain⟨na,nc,rfl⟩:=Zac hown';simp only [Value.ownBlock] at hgrow
 have hb4:Below w.heap.size w w4:=((((Below.refl w.heap.size w).alloc (by simp) _).alloc (by simp) _).alloc (by simp;omega) _).grown hgrow (by simp;omega) (fun k hk=>by simp at hk;omega)
 have q0:w4.heap[w.heap.size]? = some (.cells #[.int .i64 x.area,.int .i64 x.kind,.int .i64 x.owner,.int .i64 x.key,.int .i64 x.seq,.slice va x.near.length vc,.int .i64 x.cost,.bool x.far] 59):=by
  rw [hgrow.block w.heap.size (by simp;omega) (by simp;omega),Below.heap_alloc _ _ _ (by simp;omega),Below.heap_alloc _ _ _ (by simp),heap_alloc_new]
 have q1:w4.heap[w.heap.size+1]? = some (.cells #[.int .i64 0,.int .i64 0,.int .i64 0,.int .i64 0,.int .i64 0,.slice none 0 0,.int .i64 0,.bool false] 59):=by
  rw [hgrow.block (w.heap.size+1) (by simp) (by simp),Below.heap_alloc _ _ _ (by simp)]
  have e:=heap_alloc_new (w.alloc (.cells #[.int .i64 x.area,.int .i64 x.kind,.int .i64 x.owner,.int .i64 x.key,.int .i64 x.seq,.slice va x.near.length vc,.int .i64 x.cost,.bool x.far] 59)) (.cells #[.int .i64 0,.int .i64 0,.int .i64 0,.int .i64 0,.int .i64 0,.slice none 0 0,.int .i64 0,.bool false] 59);rw [show (w.alloc (.cells #[.int .i64 x.area,.int .i64 x.kind,.int .i64 x.owner,.int .i64 x.key,.int .i64 x.seq,.slice va x.near.length vc,.int .i64 x.cost,.bool x.far] 59)).heap.size=w.heap.size+1 by simp] at e
  exact e
 have r5:=Zaa q0 5;have f0:=Zae q0;simp at r5
 have q2:=heap_setCell_same w4 w.heap.size 5 _ _ (.slice na x.near.length nc) q0;simp only [List.setIfInBounds_toArray,List.set_cons_zero,List.set_cons_succ] at q2
 have q3:(w4.setCell ⟨w.heap.size,5,none⟩ (.slice na x.near.length nc)).heap[w.heap.size+1]? = some (.cells #[.int .i64 0,.int .i64 0,.int .i64 0,.int .i64 0,.int .i64 0,.slice none 0 0,.int .i64 0,.bool false] 59):=by
  rw [heap_setCell_other w4 ⟨w.heap.size,5,none⟩ _ _ (by show w.heap.size+1≠w.heap.size;omega)];exact q1
 have y0:=Zaa q2 0;have y1:=Zaa q2 1;have y2:=Zaa q2 2;have y3:=Zaa q2 3;have y4:=Zaa q2 4;have y5:=Zaa q2 5;have y6:=Zaa q2 6;have y7:=Zaa q2 7;simp at y0 y1 y2 y3 y4 y5 y6 y7
 have u0:=Zaa q3 0;have u1:=Zaa q3 1;have u2:=Zaa q3 2;have u3:=Zaa q3 3;have u4:=Zaa q3 4;have u5:=Zaa q3 5;have u6:=Zaa q3 6;have u7:=Zaa q3 7;simp at u0 u1 u2 u3 u4 u5 u6 u7
 have fu:=Zae q3;have F:=ZoU x (.slice na x.near.length nc) q3;have hown2:=ZaH (j:=5) (u:=.slice na x.near.length nc) hown' (show w.heap.size<w.heap.size+2 by omega)
 have G8:=ZjD (w4.setCell ⟨w.heap.size,5,none⟩ (.slice na x.near.length nc)) (w.heap.size+1) x (.slice na x.near.length nc);have hown3:=Zah (b0:=w.heap.size) (hown2.kept G8 (by
  cases hv:(Value.slice na x.near.length nc).ownBlock with
  | none=>exact .inl rfl
  | some g=>exact .inr (fun e=>by have:=(hown2.lt g hv).1;simp at e;omega))) (by omega)
 have hb5:Below w.heap.size w (Zll (w4.setCell ⟨w.heap.size,5,none⟩ (.slice na x.near.length nc)) (w.heap.size+1) x (.slice na x.near.length nc)):=(hb4.setCell (p:=⟨w.heap.size,5,none⟩) (Nat.le_refl _) _).grown G8 (by have:=Zab q3;omega) (fun k hk=>by simp at hk;omega)
 have FF:=hide F;have H3:=hide hown3;have H5:=hide hb5;clear F hown3 hb5 hown2 G8 hb4 hown' hgrow q0 q1 q2 q3 OW
 go_wp2_with fail
 (try simp only [Exit.inBlock,Exit.then])
 refine bodyPost_ret (results_cell_row rfl _ _ (w.heap.size+1) 59 (recC _ _) (0,0) _ rfl FF.out Tryz.underlying59 rfl (by kernel_rfl)) rfl ?_
 exact⟨_,rfl,H3.out,H5.out⟩
theorem Ziu (ps:List RP):ps.Pairwise ZfZ↔(ps.map (·.2)).Pairwise (fun a b:Value=>∀ k,a.ownBlock=some k->b.ownBlock≠some k):=by
 rw [List.pairwise_map];exact Iff.rfl
theorem Znk {ps:List RP}(h:ps.Pairwise ZfZ){i k:Nat}{p q:RP}(hi:ps[i]? = some p)(hk:ps[k]? = some q)(hne:i≠k):ZfZ p q:=by
 obtain⟨h1,e1⟩:=List.getElem?_eq_some_iff.1 hi;obtain⟨h2,e2⟩:=List.getElem?_eq_some_iff.1 hk;rw [List.pairwise_iff_getElem] at h
 rcases Nat.lt_or_ge i k with hl | hl
 ·have:=h i k h1 h2 hl
  rw [e1,e2] at this;exact this
 ·have:=h k i h2 h1 (by omega)
  rw [e1,e2] at this;exact fun j hj he=>this j he hj
theorem Zpi {ps:List RP}{k:Nat}{p q:RP}(hk:ps[k]? = some p)(h:q.2=p.2):(ps.set k q).map (·.2)=ps.map (·.2):=by
 apply List.ext_getElem?
 intro i;by_cases e:i=k
 ·subst e
  obtain⟨h1,e1⟩:=List.getElem?_eq_some_iff.1 hk;rw [List.getElem?_map,List.getElem?_set_self h1,List.getElem?_map,hk];simp [h]
 ·simp [List.getElem?_set_ne (Ne.symm e)]
theorem RecsOwn.turn {W W8:World}{lo hi g n cap k:Nat}{xs:List RP}{p q:RP}(h:RecsOwn W lo hi (.slice (some ⟨g,0,none⟩) n cap) xs)(hn:xs.length=n)(hk:xs[k]? = some p)(hq:q.2=p.2)
  (row:W8.ownsRow lo 59 8 (.slice (some ⟨g,0,none⟩) n cap) n (flat encP (xs.set k q))) (near:W8.ownsRow lo 62 2 q.2 q.1.near.length (flat nrE q.1.near))
  (hkeep:∀ j,j<W.heap.size->j≠g->some j≠p.2.ownBlock->W8.heap[j]? = W.heap[j]?):RecsOwn W8 lo hi (.slice (some ⟨g,0,none⟩) n cap) (xs.set k q) where
 row:=by rw [List.length_set,hn];exact row
 top:=h.top
 apart:=by rw [Ziu,Zpi hk hq, <-Ziu];exact h.apart
 nears:=by
  intro r hr;obtain⟨i,hi,e⟩:=List.getElem_of_mem hr;have hr2:(xs.set k q)[i]? = some r:=by rw [<-e];exact List.getElem?_eq_getElem hi
  by_cases ek:i=k
  ·subst ek
   rw [List.getElem?_set_self (by simpa using hi)] at hr2
   cases hr2
   refine⟨near,?_⟩
   rw [hq];exact (h.nears p (List.mem_of_getElem? hk)).2
  ·rw [List.getElem?_set_ne (Ne.symm ek)] at hr2
   have ho:=h.nears r (List.mem_of_getElem? hr2);refine⟨Zao ho.1 (fun j hj=>?_),ho.2⟩
   refine hkeep j (ho.1.lt j hj).2 ?_ ?_
   ·rintro rfl
    obtain⟨cur,hh⟩:∃ cur,W.heap[j]? = some (.cells cur 59 (0,0)):=by
     rcases h.row.2 with ⟨h0,_⟩ | ⟨g',cap',cur',hv',_,hh',_⟩
     ·cases h0
     ·cases hv';exact⟨cur',hh'⟩
    rcases ho.1.2 with ⟨h0,_⟩ | ⟨g',cap',cur',hv',_,hh',_⟩
    ·rw [h0] at hj;simp [Value.ownBlock] at hj
    ·rw [hv'] at hj
     simp [Value.ownBlock] at hj
     subst hj;rw [hh] at hh';simp at hh'
   ·intro he
    exact Znk h.apart hr2 hk ek j hj he.symm
theorem Zan {W:World}{base size n z:Nat}{e t:TypeId}{v:Value}{xs:List Value}{C:Array Value}{fr:Nat × Nat}(ho:W.ownsRow base e size v n xs)(h:W.heap[z]? = some (.cells C t fr))(hne:e≠t):some z≠v.ownBlock:=by
 intro eq
 rcases ho.2 with ⟨h1,_⟩ | ⟨g',cap',cur',hv',_,hh',_⟩
 ·rw [h1] at eq;simp [Value.ownBlock] at eq
 ·rw [hv'] at eq
  simp [Value.ownBlock] at eq
  subst eq;rw [h] at hh';simp at hh'
  exact hne hh'.2.1.symm
theorem ZaG {α:Type}{enc:α->List Value}{sz bytes:Nat}(hlen:∀ a,(enc a).length=sz)(hpos:0<sz)(hbb:bytes<=100){P:Program}(w:World){ops:Array Oper}{rest:List Oper}{o:Oper}{a:Act}{Q:Exit->Act->World->Prop}(hgd:o.guard=none)(s x:Operand)(t:TypeId)
  (ho:o.op=.call { callee:=.builtin .append,args:=#[s,x],argTypes:=#[t,t] }) (base:Nat) (e:TypeId) (ht:P.underlying t=some (.slice e)) (zv:Value) (hzv:zv.cells.size=sz)
  (hinfo:(P.info? e).map (fun i=>(i.zero,i.size,i.bytes))=some (some zv,sz,bytes))
  (v:Value) (l:List α) (y:α) (hone:∀ u∈enc y,u.oneCell'=true) (hs:a.eval s=v) (hown:w.ownsRow base e sz v l.length (flat enc l))
  (ad:Addr) (c:Nat) (hx:a.eval x=.slice (some ad) 1 c) (hnews:∀ j u,(enc y)[j]? = some u->w.cell? (ad.add j)=some u)
  (hl:l.length+1<=1000000000) (hbase:base<=w.heap.size)
  (h:∀ v' w',w'.ownsRow base e sz v' (l++[y]).length (flat enc (l++[y]))->w.grownBy w' v.ownBlock->wpList P ops Q rest (a.put o.dst v') w'):wpList P ops Q (o::rest) a w:=by
 obtain⟨i0,hi,hz0,hz1,hz2⟩:=info_parts hinfo;refine wpList_append_own w hgd s x t ho base e i0 zv sz bytes ht hi hz0 hz1 hz2 hzv hpos v l.length (flat enc l) hs hown ad 1 c (enc y) hx (by rw [hlen];omega) hnews hone (by unfold maxLen;omega) ?_ hbase ?_
 ·have:(l.length+1)*bytes<=1000000000*100:=Nat.mul_le_mul hl hbb
  omega
 ·intro v' w' h1 h2 _
  have e1:flat enc l++enc y=flat enc (l++[y]):=by rw [ZaD];simp [flat]
  rw [e1] at h1;exact h v' w' (by simpa using h1) h2
theorem Zca (x:RecD)(a:Option Addr)(n c:Nat):∀ u∈encP (x,.slice a n c),u.oneCell'=true:=by
 intro u hu;simp only [encP,List.mem_cons,List.not_mem_nil,or_false] at hu
 rcases hu with rfl | rfl | rfl | rfl | rfl | rfl | rfl | rfl <;> rfl
theorem ZeB {W:World}{lo lo2 hi n size2:Nat}{v:Value}{xs:List Value}{q:RP}(hq:ZaJ W lo hi q)(hr:W.ownsRow lo2 59 size2 v n xs)(j:Nat)(hj:q.2.ownBlock=some j):some j≠v.ownBlock:=by
 intro e
 rcases hr.2 with ⟨h0,_⟩ | ⟨g,cap,cur,hv,_,hh,_⟩
 ·rw [h0] at e;simp [Value.ownBlock] at e
 ·rw [hv] at e
  simp [Value.ownBlock] at e
  subst e;exact Zan hq.1 hh (by decide) hj.symm
theorem RecsOwn.push {W Wa W2:World}{lo:Nat}{v v':Value}{qs:List RP}{p:RP}(h:RecsOwn W lo W.heap.size v qs)(hb:Below W.heap.size W Wa)(hlo:lo<=W.heap.size)(hp:ZaJ Wa W.heap.size Wa.heap.size p)
  (row:W2.ownsRow lo 59 8 v' (qs.length+1) (flat encP (qs++[p]))) (hg:Wa.grownBy W2 v.ownBlock):RecsOwn W2 lo W2.heap.size v' (qs++[p]) where
 row:=by simpa using row
 top:=fun k hk=>(row.lt k hk).2
 apart:=ZlL h.apart h.nears (fun k hk=>(hp.1.lt k hk).1)
 nears:=by
  have rowa:=Zaf h.row hb (Nat.le_refl _);have key:∀ q,ZaJ Wa lo Wa.heap.size q->ZaJ W2 lo W2.heap.size q:=fun q hq=>
   ⟨Zao hq.1 (fun j hj=>hg.block j (hq.2 j hj) (ZeB hq rowa j hj)),fun k hk=>Nat.lt_of_lt_of_le (hq.2 k hk) hg.size⟩
  intro q hq
  rcases List.mem_append.1 hq with h1 | h1
  ·exact key q (((h.nears q h1).keep (W':=Wa) (fun j _ h2 _=>hb.block j h2)).wide (Nat.le_refl _) hb.size)
  ·have:q=p:=by simpa using h1
   subst this;exact key q (hp.wide hlo (Nat.le_refl _))
theorem Zfg (W:World)(lo:Nat)(hb:lo<=W.heap.size):RecsOwn (W.alloc (.cells #[] 59)) lo (W.alloc (.cells #[] 59)).heap.size (.slice (some ⟨W.heap.size,0,none⟩) 0 0) [] where
 row:=World.ownsRow_lit W #[] 0 hb (by unfold maxLen;omega) (by simp)
 top:=by intro k hk;simp [Value.ownBlock] at hk;subst hk;simp
 nears:=by simp
 apart:=by simp
def ZaN (x y:RecD):Bool:=x.area==y.area&&x.kind==y.kind&&x.owner==y.owner&&x.key==y.key
theorem Zjd (v1 v2:Value)(x y:RecD)(w:World):Calls Tryz.prog 103 #[.agg (recC x v1),.agg (recC y v2)] w fun e w'=>e=.returned (.bool (ZaN x y))/\Below w.heap.size w w':=by
 obtain⟨a0,a1,a2,a3,a4,ns,a6,a7⟩:=x;obtain⟨b0,b1,b2,b3,b4,ms,b6,b7⟩:=y;unfold recC;simp only []
 go_enter Tryz.func103,Tryz.ntmps103
 go_wp2
 all_goals go_ret
 all_goals refine ⟨Zam ?_,Za6 _ _⟩
 all_goals (simp only [ZaN];grind)
def keyC (x:RecD):Array Value:=#[.int .i64 x.area,.int .i64 x.kind,.int .i64 x.owner,.int .i64 x.key]
theorem Zmo (v1:Value)(x:RecD)(w:World):Calls Tryz.prog 177 #[.agg (recC x v1)] w fun e w'=>e=.returned (.agg (keyC x))/\Below w.heap.size w w':=by
 obtain⟨a0,a1,a2,a3,a4,ns,a6,a7⟩:=x;unfold recC keyC;simp only []
 go_enter Tryz.func177,Tryz.ntmps177
 go_wp2
 go_returns
 exact⟨rfl,Za6 _ _⟩
theorem Zmp (a0 a1 a2 a3 a4:Int)(v:Value)(a6:Int)(a7:Bool)(w:World):Calls Tryz.prog 177 #[.agg #[.int .i64 a0,.int .i64 a1,.int .i64 a2,.int .i64 a3,.int .i64 a4,v,.int .i64 a6,.bool a7]] w fun e w'=>e=.returned (.agg #[.int .i64 a0,.int .i64 a1,.int .i64 a2,.int .i64 a3])/\Below w.heap.size w w':=
 Zmo v ⟨a0,a1,a2,a3,a4,[],a6,a7⟩ w
def inB (x a b:Int):Bool:=decide (a<=x)&&decide (x<=b)
theorem ZbP (x a b:Int)(w:World):Calls Tryz.prog 35 #[.int .i64 x,.int .i64 a,.int .i64 b] w fun e w'=>e=.returned (.bool (inB x a b))/\w=w':=by
 by_cases h1:a<=x <;> by_cases h2:x<=b
 all_goals
  go_enter Tryz.func35,Tryz.ntmps35
  go_wp2
  go_ret
  exact⟨by simp [inB,h1,h2],rfl⟩
theorem Zcb (x a b:Int)(w:World):Calls Tryz.prog 56 #[.int .i64 x,.int .i64 a,.int .i64 b] w fun e w'=>e=.returned (.bool (inB x a b))/\w=w':=by
 by_cases h1:a<=x <;> by_cases h2:x<=b
 all_goals
  go_enter Tryz.func56,Tryz.ntmps56
  go_wp2
  go_ret
  exact⟨by simp [inB,h1,h2],rfl⟩
def cmpN (a b:Int):Int:=if a<b then -1 else if b<a then 1 else 0
theorem Zbc {a b:Int}:cmpN a b=0↔a=b:=by unfold cmpN;split <;> (try split) <;> omega
theorem ZdA {a b:Int}:cmpN a b<0↔a<b:=by unfold cmpN;split <;> (try split) <;> omega
theorem Zi9 {a b:Int}(h:b=a):Ending.returned (.int .i64 a)=.returned (.int .i64 b):=by rw [h]
theorem ZiS (a:Int)(w:World):Calls Tryz.prog 124 #[.int .i64 a] w fun e w'=>e=.returned (.bool false)/\w=w':=by
 go_enter Tryz.func124,Tryz.ntmps124
 go_wp2
 go_ret
 exact⟨by simp,rfl⟩
theorem Zbt (a b:Int)(w:World):Calls Tryz.prog 106 #[.int .i64 a,.int .i64 b] w fun e w'=>e=.returned (.int .i64 (cmpN a b))/\w=w':=by
 go_enter Tryz.func106,Tryz.ntmps106
 go_wp2_with fail
 refine (ZiS a _).mono ?_
 rintro e w1 ⟨rfl,rfl⟩
 go_wp2_with fail
 refine (ZiS b _).mono ?_
 rintro e w1 ⟨rfl,rfl⟩
 go_wp2
 all_goals go_ret
 all_goals refine ⟨Zi9 ?_,rfl⟩
 all_goals (unfold cmpN;grind)
def Zas (x y:RecD):Bool:=decide (x.area<y.area)||(x.area==y.area&&(decide (x.kind<y.kind)||(x.kind==y.kind&&(decide (x.owner<y.owner)||(x.owner==y.owner&&decide (x.key<y.key))))))
theorem ZeK (v1 v2:Value)(x y:RecD)(w:World):Calls Tryz.prog 51 #[.agg (recC x v1),.agg (recC y v2)] w fun e w'=>e=.returned (.bool (Zas x y))/\Below w.heap.size w w':=by
 obtain⟨a0,a1,a2,a3,a4,ns,a6,a7⟩:=x;obtain⟨b0,b1,b2,b3,b4,ms,b6,b7⟩:=y;unfold recC;simp only []
 go_enter Tryz.func51,Tryz.ntmps51
 go_wp2
 all_goals go_ret
 all_goals refine ⟨Zam ?_,Za6 _ _⟩
 all_goals (simp only [Zas];grind)
end Go.Proofs.YtgdgkgmjpnbbcaaGreat
namespace Go.Proofs.YtgdgkgmjpnbbcaaGreat
open Go.RowKit

theorem putS:(∀ (a:Act) (v:Value),a.put none v=a)/\(∀ (a:Act) (t:Nat) (v:Value),a.put (some t) v = { a with tmps:=a.tmps.setIfInBounds t v })/\(∀ (l:List Value) (i:Nat) (v:Value),l.toArray.setIfInBounds i v=(l.set i v).toArray)/\(∀ (x v:Value) (l:List Value),(x::l).set 0 v=v::l)/\(∀ (x v:Value) (l:List Value) (n:Nat),(x::l).set (n+1) v=x::l.set n v):=
 ⟨fun _ _=>rfl,fun _ _ _=>rfl,fun _ _ _=>by simp,fun _ _ _=>rfl,fun _ _ _ _=>rfl⟩

theorem getS:(∀ (l:List Oper) (i:Nat),l.toArray[i]? = l[i]?)/\(∀ (x:Oper) (l:List Oper),(x::l)[0]? = some x)/\(∀ (x:Oper) (l:List Oper) (n:Nat),(x::l)[n+1]? = l[n]?):=
 ⟨fun _ _=>by simp,fun _ _=>rfl,fun _ _ _=>rfl⟩

def ZeA (ops:Array Oper)(listed:Array Bool)(i:Nat):Bool:=Region.noSelect ops&&Region.free .any ops listed i&&(Region.ready .any ops listed).contains i

theorem Ze4 {ops:Array Oper}{listed:Array Bool}{i:Nat}(h:ZeA ops listed i=true):Region.noSelect ops=true/\Region.free .any ops listed i=true/\(Region.ready .any ops listed).contains i=true:=by
 unfold ZeA at h;simp only [Bool.and_eq_true] at h
 exact⟨h.1.1,h.1.2,h.2⟩

section
variable {P:Program} {ops:Array Oper} {Q:Exit->Act->World->Prop} {S:World->Prop} {fuel:Nat} {listed:Array Bool} {a:Act} {w:World}

/-- the beginning: the region's operations behind a letter -/
theorem Zaj {id:Nat}(hm:P.follows .mixedOrders=true)(n:Nat)(hn:ops.size=n)(hS:S w.drew)(h:∀ ops',Hid (ops'=ops)->S w.drew->wpAnyH P .any ops' Q S n (Array.replicate n false) a w.drew):(Code.region id ops true).wp P Q a w:=by
 refine wp_region_held_drew hm hS (fun hs=>?_)
 rw [hn];exact h ops rfl hs

/-- an operation that isn't wanted -/
theorem Zm3 (i:Nat)(d:Tmp)(hi:(ops[i]?).map Oper.dst=some (some d))(ht:ZeA ops listed i=true)(hw:(ops[i]?).map (fun o=>Region.wanted o (yielded ops a.tmps))=some false)
  (hQ:∀ c a w,Q (.panic c) (a.put (some d) undef) w->Q (.panic c) a w) (hS:S w) (h:wpAnyH P .any ops Q S fuel (listed.setIfInBounds i true) (a.put (some d) undef) w):wpAnyH P .any ops Q S (fuel+1) listed a w:=by
 obtain⟨h1,h2,h3⟩:=Ze4 ht;cases ho:ops[i]? with
 | none=>rw [ho] at hi;cases hi
 | some oi=>
  rw [ho] at hi hw;simp only [Option.map_some,Option.some.injEq] at hi hw
  refine wpAnyH_take ho h1 h2 h3 (v:=undef) ?_ (Or.inr ⟨hw,rfl⟩) hS ?_
  ·rw [hi];exact hQ
  ·rw [hi];exact h

/-- an operation that yields v in every world that meets S -/
theorem ZaA (i:Nat){oi:Oper}{v:Value}(hi:ops[i]? = some oi)(ht:ZeA ops listed i=true)(hw:Region.wanted oi (yielded ops a.tmps)=true)(hy:∀ w,S w->(execOp a.eval oi).run P w=.ok (.value v) w)
  (hQ:∀ c a w,Q (.panic c) (a.put oi.dst v) w->Q (.panic c) a w) (hS:S w) (h:wpAnyH P .any ops Q S fuel (listed.setIfInBounds i true) (a.put oi.dst v) w):wpAnyH P .any ops Q S (fuel+1) listed a w:=by
 obtain⟨h1,h2,h3⟩:=Ze4 ht;exact wpAnyH_take hi h1 h2 h3 hQ (Or.inl ⟨hw,hy⟩) hS h

/-- a call that alone may come up -/
theorem Zak (i:Nat){oi:Oper}(hi:ops[i]? = some oi)(hr:Region.ready .any ops listed=[i])(hw:Region.wanted oi (yielded ops a.tmps)=true)
  (h:∀ K':Act->World->Prop,Shut (∀ a w,S w->(S w->wpAnyH P .any ops Q S fuel (listed.setIfInBounds i true) a w)->K' a w)->Oper.wp P oi a w K' Q):wpAnyH P .any ops Q S (fuel+1) listed a w:=by
 refine wpAnyH_ready (rs:=[i]) hr (by simp) ?_
 refine AllReadyH.cons hi (fun K hK=>?_) AllReadyH.nil
 rw [if_pos hw];exact h K hK
theorem Zad (i:Nat)(d:Tmp) (hb:((ops[i]?).map Oper.dst==some (some d)&&(ZeA ops listed i&&(ops[i]?).map (fun o=>Region.wanted o (yielded ops a.tmps))==some false))=true)
  (hQ:∀ c a w,Q (.panic c) (a.put (some d) undef) w->Q (.panic c) a w) (hS:S w) (h:wpAnyH P .any ops Q S fuel (listed.setIfInBounds i true) (a.put (some d) undef) w):wpAnyH P .any ops Q S (fuel+1) listed a w:=by
 simp only [Bool.and_eq_true,beq_iff_eq] at hb
 exact Zm3 i d hb.1 hb.2.1 hb.2.2 hQ hS h

theorem Za0 (i:Nat)(oi:Oper)(v:Value)(hi:ops[i]? = some oi) (hb:(ZeA ops listed i&&(ops[i]?).map (fun o=>Region.wanted o (yielded ops a.tmps))==some true)=true) (hy:∀ w,S w->(execOp a.eval oi).run P w=.ok (.value v) w)
  (hQ:∀ c a w,Q (.panic c) (a.put oi.dst v) w->Q (.panic c) a w) (hS:S w) (h:wpAnyH P .any ops Q S fuel (listed.setIfInBounds i true) (a.put oi.dst v) w):wpAnyH P .any ops Q S (fuel+1) listed a w:=by
 simp only [Bool.and_eq_true,beq_iff_eq] at hb
 have h2:=hb.2;rw [hi] at h2;simp only [Option.map_some,Option.some.injEq] at h2
 exact ZaA i hi hb.1 h2 hy hQ hS h

theorem Zat (n:Nat)(oi:Oper)(v:Value)(hi:ops[n-(fuel+1)]? = some oi) (hb:(ZeA ops listed (n-(fuel+1))&&(ops[n-(fuel+1)]?).map (fun o=>Region.wanted o (yielded ops a.tmps))==some true)=true) (hy:∀ w,S w->(execOp a.eval oi).run P w=.ok (.value v) w)
  (hQ:∀ c a w,Q (.panic c) (a.put oi.dst v) w->Q (.panic c) a w) (hS:S w) (h:wpAnyH P .any ops Q S fuel (listed.setIfInBounds (n-(fuel+1)) true) (a.put oi.dst v) w):wpAnyH P .any ops Q S (fuel+1) listed a w:=
 Za0 (n-(fuel+1)) oi v hi hb hy hQ hS h

end
end Go.Proofs.YtgdgkgmjpnbbcaaGreat
namespace Go.Proofs.YtgdgkgmjpnbbcaaGreat
open Go.RowKit
set_option linter.unusedSimpArgs false
set_option linter.unusedVariables false
set_option maxRecDepth 100000
set_option maxHeartbeats 8000000
def Zej (W:World)(p:Nat)(a b c d:Int):Prop:=(W.cell? ⟨p,0,none⟩=some (.int .i64 a)/\W.cell? ⟨p,1,none⟩=some (.int .i64 b)/\W.cell? ⟨p,2,none⟩=some (.int .i64 c)/\W.cell? ⟨p,3,none⟩=some (.int .i64 d))/\W.frozen? ⟨p,0,none⟩=false/\W.frozen? ⟨p,1,none⟩=false/\W.frozen? ⟨p,2,none⟩=false/\W.frozen? ⟨p,3,none⟩=false
theorem Zej.lt {W:World}{p:Nat}{a b c d:Int}(h:Zej W p a b c d):p<W.heap.size:=World.block_lt_of_cell? W _ h.1.1
theorem Zej.below {W w2:World}{p:Nat}{a b c d:Int}(h:Zej W p a b c d)(hb:Below W.heap.size W w2):Zej w2 p a b c d:=by
 have hp:=h.lt;obtain⟨⟨h0,h1,h2,h3⟩,f0,f1,f2,f3⟩:=h;refine⟨⟨?_,?_,?_,?_⟩,?_,?_,?_,?_⟩
 ·rw [hb.cell (p:=⟨p,0,none⟩) hp];exact h0
 ·rw [hb.cell (p:=⟨p,1,none⟩) hp];exact h1
 ·rw [hb.cell (p:=⟨p,2,none⟩) hp];exact h2
 ·rw [hb.cell (p:=⟨p,3,none⟩) hp];exact h3
 ·rw [hb.frozen (p:=⟨p,0,none⟩) hp];exact f0
 ·rw [hb.frozen (p:=⟨p,1,none⟩) hp];exact f1
 ·rw [hb.frozen (p:=⟨p,2,none⟩) hp];exact f2
 ·rw [hb.frozen (p:=⟨p,3,none⟩) hp];exact f3
theorem Zej.alloc {W:World}{p:Nat}{a b c d:Int}(h:Zej W p a b c d)(o:Obj):Zej (W.alloc o) p a b c d:=h.below ((Below.refl _ _).alloc (Nat.le_refl _) _)
theorem Zej.same {W W':World}{p:Nat}{a b c d:Int}(h:Zej W p a b c d)(e:W.heap=W'.heap):Zej W' p a b c d:=by
 unfold Zej World.cell? World.frozen? at *;rw [<-e];exact h
end Go.Proofs.YtgdgkgmjpnbbcaaGreat
