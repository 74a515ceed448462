/-
  SelfK SelfL SameS IKey BefS IBef IBefM PlaceK PlaceJ
-/
import Derived.Test.YtcimbiinljcifaaGreatLn1
import Derived.Test.YtcimbiinljcifaaGreatLn7
import Derived.Test.YtcimbiinljcifaaGreatLn6
import Derived.Laws.StructEq
import Derived.Deep.RegionHeld3
import Derived.ChangeKeysEq
import Derived.Test.YtcimbiinljcifaaGreatLn2
import Derived.Test.YtcimbiinljcifaaGreatLn3
namespace Go.Proofs.YtcimbiinljcifaaGreat
open Go.RowKit
set_option linter.unusedSimpArgs false
set_option linter.unusedVariables false
set_option maxRecDepth 100000
set_option maxHeartbeats 8000000
structure SelfD where
 id:Int
 boot:Int
 net:NetD
 heard:List Int
abbrev ZdL (x:SelfD) (v1 v2 v3 v4:Value):Value:=.agg #[.int .i64 x.id,.int .i64 x.boot,.int .i64 x.net.n,v1,v2,v3,v4]
structure SelfIn (W:World) (v1 v2 v3 v4:Value) (x:SelfD) (ps:List RP) (B:Nat):Prop where
 links:Za0 W v1 x.net.ls B
 things:Zbf W v2 x.net.ts B
 heard:Za9 W v3 x.heard B
 store:Zbs W v4 ps B
def ZlT (W:World)(v:Value)(x:SelfD)(ps:List RP)(B:Nat):Prop:=∃ v1 v2 v3 v4,v=ZdL x v1 v2 v3 v4/\Za0 W v1 x.net.ls B/\Zbf W v2 x.net.ts B/\Za9 W v3 x.heard B/\Zbs W v4 ps B
theorem ZlT.in {W:World}{v:Value}{x:SelfD}{ps:List RP}{B:Nat}(h:ZlT W v x ps B):∃ v1 v2 v3 v4,v=ZdL x v1 v2 v3 v4/\SelfIn W v1 v2 v3 v4 x ps B:=by
 obtain⟨v1,v2,v3,v4,h0,h1,h2,h3,h4⟩:=h;exact⟨v1,v2,v3,v4,h0,h1,h2,h3,h4⟩
theorem SelfIn.later {W W':World}{v1 v2 v3 v4:Value}{x:SelfD}{ps:List RP}{B C:Nat}(h:SelfIn W v1 v2 v3 v4 x ps B)(hb:Below C W W')(hBC:B<=C):SelfIn W' v1 v2 v3 v4 x ps B:=
 ⟨ZaT.later h.links hb hBC,ZaT.later h.things hb hBC,ZaT.later h.heard hb hBC,h.store.later hb hBC⟩
theorem SelfIn.more {W:World}{v1 v2 v3 v4:Value}{x:SelfD}{ps:List RP}{B C:Nat}(h:SelfIn W v1 v2 v3 v4 x ps B)(hBC:B<=C):SelfIn W v1 v2 v3 v4 x ps C:=
 ⟨ZaT.more h.links hBC,ZaT.more h.things hBC,ZaT.more h.heard hBC,h.store.more hBC⟩
theorem SelfIn.then {W W':World}{v1 v2 v3 v4:Value}{x:SelfD}{ps:List RP}(h:SelfIn W v1 v2 v3 v4 x ps W.heap.size)(hb:Below W.heap.size W W'):SelfIn W' v1 v2 v3 v4 x ps W'.heap.size:=(h.later hb (Nat.le_refl _)).more hb.size
def totS (x:SelfD)(ps:List RP):Nat:=x.net.ls.length+x.net.ts.length+x.heard.length+tot ps
structure SelfOwn (W:World) (lo hi:Nat) (v1 v2 v3 v4:Value) (x:SelfD) (ps:List RP) (m1 m2:Nat):Prop where
 o1:lo<=m1
 o2:m1<=m2
 o3:m2<=hi
 links:W.ownsRow lo 127 4 v1 x.net.ls.length (flat lkE x.net.ls)
 ltop:∀ k,v1.ownBlock=some k->k<m1
 things:W.ownsRow lo 131 4 v2 x.net.ts.length (flat thE x.net.ts)
 ttop:∀ k,v2.ownBlock=some k->k<m1
 heard:IntsOwn W m1 m2 v3 x.heard
 store:RecsOwn W m2 hi v4 ps
theorem Zdl {α:Type}{enc:α->List Value}{W:World}{lo hi sz:Nat}{t:TypeId}{v:Value}{l:List α}(h:W.ownsRow lo t sz v l.length (flat enc l))(ht:∀ k,v.ownBlock=some k->k<hi):ZaP enc sz W v l hi:=by
 obtain⟨a,cap,hv,h2⟩:=Zaq h;refine⟨a,cap,hv,?_⟩
 rcases h2 with h0 | ⟨b,off,ha,hb1,hx⟩
 ·exact .inl h0
 ·exact .inr ⟨b,off,ha,ht b (by rw [hv,ha];rfl),hx⟩
theorem SelfOwn.in {W:World}{lo hi m1 m2:Nat}{v1 v2 v3 v4:Value}{x:SelfD}{ps:List RP}(h:SelfOwn W lo hi v1 v2 v3 v4 x ps m1 m2):SelfIn W v1 v2 v3 v4 x ps hi where
 links:=ZaT.more (Zdl h.links h.ltop) (Nat.le_trans h.o2 h.o3)
 things:=ZaT.more (Zdl h.things h.ttop) (Nat.le_trans h.o2 h.o3)
 heard:=ZaT.more h.heard.at h.o3
 store:=h.store.at
theorem SelfOwn.keep {W W':World}{lo hi m1 m2:Nat}{v1 v2 v3 v4:Value}{x:SelfD}{ps:List RP}(h:SelfOwn W lo hi v1 v2 v3 v4 x ps m1 m2)(hk:∀ k,lo<=k->k<hi->k<W.heap.size->W'.heap[k]? = W.heap[k]?):SelfOwn W' lo hi v1 v2 v3 v4 x ps m1 m2 where
 o1:=h.o1
 o2:=h.o2
 o3:=h.o3
 links:=Zam h.links (fun k e=>by have h1:=h.links.lt k e;have h2:=h.ltop k e;have:=h.o2;have:=h.o3;exact hk k h1.1 (by omega) h1.2)
 ltop:=h.ltop
 things:=Zam h.things (fun k e=>by have h1:=h.things.lt k e;have h2:=h.ttop k e;have:=h.o2;have:=h.o3;exact hk k h1.1 (by omega) h1.2)
 ttop:=h.ttop
 heard:=h.heard.keep (fun k a b c=>by have:=h.o1;have:=h.o3;exact hk k (by omega) (by omega) c)
 store:=h.store.keep (fun k a b c=>by have:=h.o1;have:=h.o2;exact hk k (by omega) b c)
theorem SelfOwn.below {W W':World}{lo hi m1 m2 B:Nat}{v1 v2 v3 v4:Value}{x:SelfD}{ps:List RP}(h:SelfOwn W lo hi v1 v2 v3 v4 x ps m1 m2)(hb:Below B W W')(hB:hi<=B):SelfOwn W' lo hi v1 v2 v3 v4 x ps m1 m2:=h.keep (fun k _ h2 _=>hb.block k (by omega))
theorem SelfOwn.frame {W W':World}{lo hi m1 m2 l2 h2:Nat}{v1 v2 v3 v4:Value}{x:SelfD}{ps:List RP}(h:SelfOwn W lo hi v1 v2 v3 v4 x ps m1 m2)(hb:Frame l2 h2 W W')(hB:hi<=l2\/h2<=lo):SelfOwn W' lo hi v1 v2 v3 v4 x ps m1 m2:=h.keep (fun k a b c=>hb.block k c (by omega))
theorem SelfOwn.low {W:World}{lo lo' hi m1 m2:Nat}{v1 v2 v3 v4:Value}{x:SelfD}{ps:List RP}(h:SelfOwn W lo hi v1 v2 v3 v4 x ps m1 m2)(hl:lo'<=lo):SelfOwn W lo' hi v1 v2 v3 v4 x ps m1 m2:=
 ⟨Nat.le_trans hl h.o1,h.o2,h.o3,Zal h.links hl,h.ltop,Zal h.things hl,h.ttop,h.heard,h.store⟩
theorem SelfOwn.high {W:World}{lo hi hi' m1 m2:Nat}{v1 v2 v3 v4:Value}{x:SelfD}{ps:List RP}(h:SelfOwn W lo hi v1 v2 v3 v4 x ps m1 m2)(hl:hi<=hi'):SelfOwn W lo hi' v1 v2 v3 v4 x ps m1 m2:=
 ⟨h.o1,h.o2,Nat.le_trans h.o3 hl,h.links,h.ltop,h.things,h.ttop,h.heard,h.store.wide (Nat.le_refl _) hl⟩
structure SelfSrc (W:World) (hi:Nat) (v1 v2 v3 v4:Value) (x:SelfD) (ps:List RP):Prop where
 links:W.ownsRow 0 127 4 v1 x.net.ls.length (flat lkE x.net.ls)
 ltop:∀ k,v1.ownBlock=some k->k<hi
 things:W.ownsRow 0 131 4 v2 x.net.ts.length (flat thE x.net.ts)
 ttop:∀ k,v2.ownBlock=some k->k<hi
 heard:W.ownsRow 0 3 1 v3 x.heard.length (flat intE x.heard)
 htop:∀ k,v3.ownBlock=some k->k<hi
 store:RecsIn W hi v4 ps
theorem SelfOwn.src {W:World}{lo hi m1 m2:Nat}{v1 v2 v3 v4:Value}{x:SelfD}{ps:List RP}(h:SelfOwn W lo hi v1 v2 v3 v4 x ps m1 m2):SelfSrc W hi v1 v2 v3 v4 x ps where
 links:=Zal h.links (Nat.zero_le _)
 ltop:=fun k e=>by have:=h.ltop k e;have:=h.o2;have:=h.o3;omega
 things:=Zal h.things (Nat.zero_le _)
 ttop:=fun k e=>by have:=h.ttop k e;have:=h.o2;have:=h.o3;omega
 heard:=Zal h.heard.row (Nat.zero_le _)
 htop:=fun k e=>by have:=h.heard.top k e;have:=h.o3;omega
 store:=h.store.in
theorem SelfSrc.below {W W':World}{hi B:Nat}{v1 v2 v3 v4:Value}{x:SelfD}{ps:List RP}(h:SelfSrc W hi v1 v2 v3 v4 x ps)(hb:Below B W W')(hB:hi<=B):SelfSrc W' hi v1 v2 v3 v4 x ps where
 links:=Zam h.links (fun k e=>hb.block k (by have:=h.ltop k e;omega))
 ltop:=h.ltop
 things:=Zam h.things (fun k e=>hb.block k (by have:=h.ttop k e;omega))
 ttop:=h.ttop
 heard:=Zam h.heard (fun k e=>hb.block k (by have:=h.htop k e;omega))
 htop:=h.htop
 store:=h.store.below hb hB
theorem SelfSrc.in {W:World}{hi:Nat}{v1 v2 v3 v4:Value}{x:SelfD}{ps:List RP}(h:SelfSrc W hi v1 v2 v3 v4 x ps):SelfIn W v1 v2 v3 v4 x ps hi where
 links:=Zdl h.links h.ltop
 things:=Zdl h.things h.ttop
 heard:=Zdl h.heard h.htop
 store:=h.store.at
theorem SelfIn.net {W:World}{v1 v2 v3 v4:Value}{x:SelfD}{ps:List RP}{B:Nat}(h:SelfIn W v1 v2 v3 v4 x ps B):Zi7 W (.agg #[.int .i64 x.net.n,v1,v2]) x.net B:=⟨v1,v2,rfl,h.links,h.things⟩
theorem SelfIn.shapes {W:World}{v1 v2 v3 v4:Value}{x:SelfD}{ps:List RP}{B:Nat}(h:SelfIn W v1 v2 v3 v4 x ps B):(∃ a c,v1=.slice a x.net.ls.length c)/\(∃ a c,v2=.slice a x.net.ts.length c)/\(∃ a c,v3=.slice a x.heard.length c)/\∃ a c,v4=.slice a ps.length c:=
 ⟨h.links.shape,h.things.shape,h.heard.shape,h.store.shape⟩
def Zak (x y:RecD):Bool:=x.area==y.area&&x.kind==y.kind&&x.owner==y.owner&&x.key==y.key
theorem ZeC (v1 v2:Value)(x y:RecD)(w:World):Calls Tryz.prog 40 #[.agg (recC x v1),.agg (recC y v2)] w fun e w'=>e=.returned (.bool (Zak x y))/\Below w.heap.size w w':=by
 obtain⟨a0,a1,a2,a3,a4,ns,a6,a7⟩:=x;obtain⟨b0,b1,b2,b3,b4,ms,b6,b7⟩:=y;unfold recC;simp only []
 go_enter Tryz.func40,Tryz.ntmps40
 go_wp2
 all_goals go_ret
 all_goals refine ⟨Zaf ?_,ZaW _ _⟩
 all_goals (simp only [Zak];grind)
theorem Zlk (w:World)(a b a' b':Int):(binOp .neq 98 (.agg #[.int .i64 a,.int .i64 b]) (.agg #[.int .i64 a',.int .i64 b'])).run Tryz.prog w=.ok (.bool (!decide ((⟨a,b⟩:Nr)=⟨a',b'⟩))) w:=by
 go_simp
 by_cases h1:a=a' <;> by_cases h2:b=b' <;> simp [h1,h2]
def keyC (x:RecD):Array Value:=#[.int .i64 x.area,.int .i64 x.kind,.int .i64 x.owner,.int .i64 x.key]
theorem Zkb (v1:Value)(x:RecD)(w:World):Calls Tryz.prog 104 #[.agg (recC x v1)] w fun e w'=>e=.returned (.agg (keyC x))/\Below w.heap.size w w':=by
 obtain⟨a0,a1,a2,a3,a4,ns,a6,a7⟩:=x;unfold recC keyC;simp only []
 go_enter Tryz.func104,Tryz.ntmps104
 go_wp2
 go_returns
 exact⟨rfl,ZaW _ _⟩
theorem Zfb (a0 a1 a2 a3 a4:Int)(v:Value)(a6:Int)(a7:Bool)(w:World):Calls Tryz.prog 104 #[.agg #[.int .i64 a0,.int .i64 a1,.int .i64 a2,.int .i64 a3,.int .i64 a4,v,.int .i64 a6,.bool a7]] w fun e w'=>e=.returned (.agg #[.int .i64 a0,.int .i64 a1,.int .i64 a2,.int .i64 a3])/\Below w.heap.size w w':=
 Zkb v ⟨a0,a1,a2,a3,a4,[],a6,a7⟩ w
theorem Tryz.info3k:(Tryz.prog.info? 3).map (fun i=>(i.zero,i.size,i.bytes))=some (some (.int .i64 0),1,8):=by kernel_rfl
theorem Zmi (w:World)(a b c d a' b' c' d':Int):(binOp .eql 140 (.agg #[.int .i64 a,.int .i64 b,.int .i64 c,.int .i64 d]) (.agg #[.int .i64 a',.int .i64 b',.int .i64 c',.int .i64 d'])).run Tryz.prog w=.ok (.bool (a==a'&&b==b'&&c==c'&&d==d')) w:=by
 obtain⟨i0,hi,_⟩:=info_parts Tryz.info3k;have hu:Tryz.prog.underlying 140=some (.array 4 3):=by kernel_rfl
 have u3:Tryz.prog.underlying 3=some (.int .i64):=by kernel_rfl
 have hc:Tryz.prog.cellsOf 3=1:=by kernel_rfl
 have hp:Tryz.prog.plainKey 3=true:=by kernel_rfl
 have pt:∀ (xs:Array Value) (off:Nat) (u:Value),xs[off]? = some u->(Go.part 3 xs off).run Tryz.prog w=.ok u w:=fun xs off u h=>run_part_plain w hp h
 have eqi:∀ (n:Nat) (x y:Int),(Op.equalIn (n+1) 3 (.int .i64 x) (.int .i64 y)).run Tryz.prog w=.ok (x==y) w:=fun n x y=>run_equalIn_int w n 3 .i64 .i64 x y u3
 go_simp
 have e1:(Op.equalIn 10000 140 (.agg #[.int .i64 a,.int .i64 b,.int .i64 c,.int .i64 d]) (.agg #[.int .i64 a',.int .i64 b',.int .i64 c',.int .i64 d'])).run Tryz.prog w=.ok (a==a'&&b==b'&&c==c'&&d==d') w:=by
  rw [run_equalIn_array w 9999 _ _ hu hi,hc]
  show (Op.eqItems 9999 3 1 _ _ [0,1,2,3]).run Tryz.prog w=_
  simp only [Op.eqItems,Sem.run_bind]
  rw [pt _ _ (.int .i64 a) rfl];simp only [Result.andThen_ok]
  rw [pt _ _ (.int .i64 a') rfl];simp only [Result.andThen_ok]
  rw [eqi 9998 a a'];simp only [Result.andThen_ok]
  cases a==a'
  ·rfl
  simp only [Bool.not_true,Bool.false_eq_true,if_false,Sem.run_bind,Bool.true_and]
  rw [pt _ _ (.int .i64 b) rfl];simp only [Result.andThen_ok]
  rw [pt _ _ (.int .i64 b') rfl];simp only [Result.andThen_ok]
  rw [eqi 9998 b b'];simp only [Result.andThen_ok]
  cases b==b'
  ·rfl
  simp only [Bool.not_true,Bool.false_eq_true,if_false,Sem.run_bind,Bool.true_and]
  rw [pt _ _ (.int .i64 c) rfl];simp only [Result.andThen_ok]
  rw [pt _ _ (.int .i64 c') rfl];simp only [Result.andThen_ok]
  rw [eqi 9998 c c'];simp only [Result.andThen_ok]
  cases c==c'
  ·rfl
  simp only [Bool.not_true,Bool.false_eq_true,if_false,Sem.run_bind,Bool.true_and]
  rw [pt _ _ (.int .i64 d) rfl];simp only [Result.andThen_ok]
  rw [pt _ _ (.int .i64 d') rfl];simp only [Result.andThen_ok]
  rw [eqi 9998 d d'];simp only [Result.andThen_ok]
  cases d==d'
  ·rfl
  ·rfl
 rw [e1]
 rfl
def Zan (x y:RecD):Bool:=decide (x.area<y.area)||(x.area==y.area&&(decide (x.kind<y.kind)||(x.kind==y.kind&&(decide (x.owner<y.owner)||(x.owner==y.owner&&decide (x.key<y.key))))))
theorem ZdK (v1 v2:Value)(x y:RecD)(w:World):Calls Tryz.prog 83 #[.agg (recC x v1),.agg (recC y v2)] w fun e w'=>e=.returned (.bool (Zan x y))/\Below w.heap.size w w':=by
 obtain⟨a0,a1,a2,a3,a4,ns,a6,a7⟩:=x;obtain⟨b0,b1,b2,b3,b4,ms,b6,b7⟩:=y;unfold recC;simp only []
 go_enter Tryz.func83,Tryz.ntmps83
 go_wp2
 all_goals go_ret
 all_goals refine ⟨Zaf ?_,ZaW _ _⟩
 all_goals (simp only [Zan];grind)
def Zdq (W:World)(p:Nat)(a b c d:Int):Prop:=(W.cell? ⟨p,0,none⟩=some (.int .i64 a)/\W.cell? ⟨p,1,none⟩=some (.int .i64 b)/\W.cell? ⟨p,2,none⟩=some (.int .i64 c)/\W.cell? ⟨p,3,none⟩=some (.int .i64 d))/\W.frozen? ⟨p,0,none⟩=false/\W.frozen? ⟨p,1,none⟩=false/\W.frozen? ⟨p,2,none⟩=false/\W.frozen? ⟨p,3,none⟩=false
theorem Zdq.lt {W:World}{p:Nat}{a b c d:Int}(h:Zdq W p a b c d):p<W.heap.size:=World.block_lt_of_cell? W _ h.1.1
theorem Zdq.below {W w2:World}{p:Nat}{a b c d:Int}(h:Zdq W p a b c d)(hb:Below W.heap.size W w2):Zdq w2 p a b c d:=by
 have hp:=h.lt;obtain⟨⟨h0,h1,h2,h3⟩,f0,f1,f2,f3⟩:=h;refine⟨⟨?_,?_,?_,?_⟩,?_,?_,?_,?_⟩
 ·rw [hb.cell (p:=⟨p,0,none⟩) hp];exact h0
 ·rw [hb.cell (p:=⟨p,1,none⟩) hp];exact h1
 ·rw [hb.cell (p:=⟨p,2,none⟩) hp];exact h2
 ·rw [hb.cell (p:=⟨p,3,none⟩) hp];exact h3
 ·rw [hb.frozen (p:=⟨p,0,none⟩) hp];exact f0
 ·rw [hb.frozen (p:=⟨p,1,none⟩) hp];exact f1
 ·rw [hb.frozen (p:=⟨p,2,none⟩) hp];exact f2
 ·rw [hb.frozen (p:=⟨p,3,none⟩) hp];exact f3
theorem Zdq.alloc {W:World}{p:Nat}{a b c d:Int}(h:Zdq W p a b c d)(o:Obj):Zdq (W.alloc o) p a b c d:=h.below ((Below.refl _ _).alloc (Nat.le_refl _) _)
theorem Zdq.same {W W':World}{p:Nat}{a b c d:Int}(h:Zdq W p a b c d)(e:W.heap=W'.heap):Zdq W' p a b c d:=by
 unfold Zdq World.cell? World.frozen? at *;rw [<-e];exact h
def cmpK (a b c d:Int):Int:=if a=0 then (if b=0 then (if c=0 then d else c) else b) else a
theorem ZkW (x y:RecD):decide (cmpK (cmpN x.area y.area) (cmpN x.kind y.kind) (cmpN x.owner y.owner) (cmpN x.key y.key)<0)=Zan x y:=by
 unfold cmpK Zan;by_cases h1:x.area=y.area
 ·rw [if_pos (Za5.2 h1)]
  by_cases h2:x.kind=y.kind
  ·rw [if_pos (Za5.2 h2)]
   by_cases h3:x.owner=y.owner
   ·rw [if_pos (Za5.2 h3)]
    simp [ZdU,h1,h2,h3]
   ·rw [if_neg (fun h=>h3 (Za5.1 h))]
    simp [ZdU,h1,h2,h3]
  ·rw [if_neg (fun h=>h2 (Za5.1 h))]
   simp [ZdU,h1,h2]
 ·rw [if_neg (fun h=>h1 (Za5.1 h))]
  simp [ZdU,h1]
theorem ZhJ (p q:Nat)(a b c d a' b' c' d':Int)(w:World)(h:Zdq w p a b c d)(h':Zdq w q a' b' c' d'):
  Calls Tryz.prog 141 #[.slice (some ⟨p,0,none⟩) 4 4,.slice (some ⟨q,0,none⟩) 4 4] w fun e w'=>e=.returned (.int .i64 (cmpK (cmpN a a') (cmpN b b') (cmpN c c') (cmpN d d')))/\w=w':=by
 obtain⟨⟨h0,h1,h2,h3⟩,_⟩:=h;obtain⟨⟨g0,g1,g2,g3⟩,_⟩:=h';have C0:=hide (Zbw a a');have C1:=hide (Zbw b b');have C2:=hide (Zbw c c');have C3:=hide (Zbw d d');generalize cmpN a a'=k0 at C0 |-;generalize cmpN b b'=k1 at C1 |-;generalize cmpN c c'=k2 at C2 |-;generalize cmpN d d'=k3 at C3 |-
 go_enter Tryz.func141,Tryz.ntmps141
 go_wp2
 refine wp_loop_rounds 5 ?_
 rw [rounds_succ]
 go_wp2_with fail
 refine (C0.out _).mono ?_
 rintro e w1 ⟨rfl,rfl⟩;by_cases z0:k0=0
 case neg=>
  have hd:(k0 != 0)=true:=by simpa using z0
  have E0:=hide (show cmpK k0 k1 k2 k3=k0 by unfold cmpK;rw [if_neg z0])
  clear z0
  go_wp2
  go_ret
  exact⟨ZhH E0.out,rfl⟩
 subst z0
 go_wp2
 rw [rounds_succ]
 go_wp2_with fail
 refine (C1.out _).mono ?_
 rintro e w1 ⟨rfl,rfl⟩;by_cases z1:k1=0
 case neg=>
  have hd:(k1 != 0)=true:=by simpa using z1
  have E0:=hide (show cmpK 0 k1 k2 k3=k1 by unfold cmpK;rw [if_pos rfl,if_neg z1])
  clear z1
  go_wp2
  go_ret
  exact⟨ZhH E0.out,rfl⟩
 subst z1
 go_wp2
 rw [rounds_succ]
 go_wp2_with fail
 refine (C2.out _).mono ?_
 rintro e w1 ⟨rfl,rfl⟩;by_cases z2:k2=0
 case neg=>
  have hd:(k2 != 0)=true:=by simpa using z2
  have E0:=hide (show cmpK 0 0 k2 k3=k2 by unfold cmpK;rw [if_pos rfl,if_pos rfl,if_neg z2])
  clear z2
  go_wp2
  go_ret
  exact⟨ZhH E0.out,rfl⟩
 subst z2
 go_wp2
 rw [rounds_succ]
 go_wp2_with fail
 refine (C3.out _).mono ?_
 rintro e w1 ⟨rfl,rfl⟩;by_cases z3:k3=0
 case neg=>
  have hd:(k3 != 0)=true:=by simpa using z3
  have E0:=hide (show cmpK 0 0 0 k3=k3 by unfold cmpK;rfl)
  clear z3
  go_wp2
  go_ret
  exact⟨ZhH E0.out,rfl⟩
 subst z3
 go_wp2
 rw [rounds_succ]
 go_wp2
 go_ret
 exact⟨ZhH rfl,rfl⟩
theorem ZgU (a b c d a' b' c' d':Int)(w:World):Calls Tryz.prog 132 #[.agg #[.int .i64 a,.int .i64 b,.int .i64 c,.int .i64 d],.agg #[.int .i64 a',.int .i64 b',.int .i64 c',.int .i64 d']] w fun e w'=>e=.returned (.int .i64 (cmpK (cmpN a a') (cmpN b b') (cmpN c c') (cmpN d d')))/\Below w.heap.size w w':=by
 obtain⟨r,hr⟩:∃ r,r=cmpK (cmpN a a') (cmpN b b') (cmpN c c') (cmpN d d'):=⟨_,rfl⟩;obtain⟨w1,hw1⟩:∃ w1,w1=(w.alloc (.cells #[.int .i64 a,.int .i64 b,.int .i64 c,.int .i64 d] 140)).alloc (.cells #[.int .i64 a',.int .i64 b',.int .i64 c',.int .i64 d'] 140):=⟨_,rfl⟩;have B1:Below w.heap.size w w1:=by rw [hw1];exact ZaW _ _
 have p0:w1.heap[w.heap.size]? = some (.cells #[.int .i64 a,.int .i64 b,.int .i64 c,.int .i64 d] 140):=by rw [hw1,Below.heap_alloc _ _ _ (by simp),heap_alloc_new]
 have q0:w1.heap[w.heap.size+1]? = some (.cells #[.int .i64 a',.int .i64 b',.int .i64 c',.int .i64 d'] 140):=by
  rw [hw1];have:=heap_alloc_new (w.alloc (.cells #[.int .i64 a,.int .i64 b,.int .i64 c,.int .i64 d] 140)) (.cells #[.int .i64 a',.int .i64 b',.int .i64 c',.int .i64 d'] 140)
  simpa using this
 have kp:Zdq w1 w.heap.size a b c d:=⟨⟨Zaa p0 0,Zaa p0 1,Zaa p0 2,Zaa p0 3⟩,Zae p0 0,Zae p0 1,Zae p0 2,Zae p0 3⟩;have kq:Zdq w1 (w.heap.size+1) a' b' c' d':=⟨⟨Zaa q0 0,Zaa q0 1,Zaa q0 2,Zaa q0 3⟩,Zae q0 0,Zae q0 1,Zae q0 2,Zae q0 3⟩;have HC:=hide (fun W' (h:w1.heap=W'.heap)=>ZhJ w.heap.size (w.heap.size+1) a b c d a' b' c' d' W' (kp.same h) (kq.same h))
 rw [<-hr] at HC |-;clear kp kq p0 q0 hr
 go_enter Tryz.func132,Tryz.ntmps132
 go_wp2
 rw [<-hw1];clear hw1
 go_region_held3 (fun W'=>w1.heap=W'.heap) (first | rfl | assumption | go_keep) (first | (go_at_call 141;refine (HC.out _ ?_).mono ?_;(first | rfl | assumption);rintro e w3 ⟨rfl,rfl⟩))
 go_wp2
 go_ret
 exact⟨rfl,B1.drew⟩
def atZ (xs:List RecD)(r:RecD):Int:=match xs.findIdx? (fun x=>Zak x r) with
 | some i=>(i:Int)
 | none => -1
theorem Zhc {xs:List RecD}{r x:RecD}{k:Nat}(hk:xs[k]? = some x)(hs:Zak x r=true)(hall:∀ j,j<k->∀ y,xs[j]? = some y->Zak y r=false):atZ xs r=(k:Int):=by
 obtain⟨h1,e1⟩:=List.getElem?_eq_some_iff.1 hk;have:xs.findIdx? (fun x=>Zak x r)=some k:=by
  rw [List.findIdx?_eq_some_iff_getElem];refine⟨h1,by rw [e1];exact hs,fun j hj=>?_⟩
  have:=hall j hj xs[j] (List.getElem?_eq_getElem (by omega))
  simp [this]
 unfold atZ;rw [this]
theorem ZiH {xs:List RecD}{r:RecD}(hall:∀ j,j<xs.length->∀ y,xs[j]? = some y->Zak y r=false):atZ xs r = -1:=by
 have:xs.findIdx? (fun x=>Zak x r)=none:=by
  rw [List.findIdx?_eq_none_iff];intro x hx;obtain⟨i,hi,e⟩:=List.getElem_of_mem hx;exact hall i hi x (by rw [<-e];exact List.getElem?_eq_getElem hi)
 unfold atZ;rw [this]
theorem ZbP (xs:List RecD)(r:RecD):atZ xs r = -1\/∃ (k:Nat) (x:RecD),atZ xs r=(k:Int)/\xs[k]? = some x/\Zak x r=true:=by
 unfold atZ;cases h:xs.findIdx? (fun x=>Zak x r) with
 | none=>exact .inl rfl
 | some i=>
  obtain⟨h1,h2,_⟩:=List.findIdx?_eq_some_iff_getElem.1 h;exact .inr ⟨i,xs[i],rfl,List.getElem?_eq_getElem h1,h2⟩
def keyV (r:RecD):Array Value:=#[.int .i64 r.area,.int .i64 r.kind,.int .i64 r.owner,.int .i64 r.key]
def plV (z:Int):Value:=if z<0 then .tuple #[.int .i64 0,.bool false] else .tuple #[.int .i64 z,.bool true]
theorem Zi1 (v:Value)(ps:List RP)(hi:Nat)(r:RP)(w:World)(hv:RecsIn w hi v ps)(hhi:hi<=w.heap.size)(hn:tot ps<=1048576):
  Calls Tryz.prog 72 #[v,.agg (recC r.1 r.2)] w fun e w'=>e=.returned (.int .i64 (atZ (fsts ps) r.1))/\Below w.heap.size w w':=by
 have hnl:=Za3 ps;obtain⟨a1,c1,rfl⟩:=Zac hv.row;have HV:=hide hv;clear hv;have BX:=(Below.refl w.heap.size w).alloc (Nat.le_refl _) (.cells (recC r.1 r.2) 40);have hx:=heap_alloc_new w (.cells (recC r.1 r.2) 40);obtain⟨wx,hwx⟩:∃ wx,wx=w.alloc (.cells (recC r.1 r.2) 40):=⟨_,rfl⟩;rw [<-hwx] at BX hx;unfold recC at *
 go_enter Tryz.func72,Tryz.ntmps72
 go_wp2
 rw [<-hwx];have HX:=hide hx;clear hwx hx
 go_loopw [5] (fun i wr=>∃ (k:Nat),k<=ps.length/\i=.int .i64 k/\(∀ j,j<k->∀ y,(fsts ps)[j]? = some y->Zak y r.1=false)/\Below wx.heap.size wx wr) (fun i _=>ps.length-(intOf i).toNat)
 case atStart=>exact ⟨0,by omega,rfl,by omega,Below.refl _ _⟩
 case round=>
  obtain⟨k,hk,rfl,hall,hnx⟩:=hrel;have HALL:=hide hall;clear hall;have hsz:=hnx.size;have hsx:=Zab HX.out;have BWR:Below w.heap.size w wr:=BX.trans (hnx.mono (by omega))
  by_cases hlt:k<ps.length
  ·obtain ⟨p,hp⟩:∃ p,ps[k]? = some p:=⟨ps[k],List.getElem?_eq_getElem hlt⟩
   have hat:=HV.out.at;obtain⟨b,off,cap',hve,hbb,c0,c1,c2,c3,c4,c5,c6,c7,_⟩:=hat.cells k p hp;cases hve
   rw [<-BWR.cell (p:=⟨b,off+k*8,none⟩) (Nat.lt_of_lt_of_le hbb hhi)] at c0;rw [<-BWR.cell (p:=⟨b,off+k*8+1,none⟩) (Nat.lt_of_lt_of_le hbb hhi)] at c1;rw [<-BWR.cell (p:=⟨b,off+k*8+2,none⟩) (Nat.lt_of_lt_of_le hbb hhi)] at c2;rw [<-BWR.cell (p:=⟨b,off+k*8+3,none⟩) (Nat.lt_of_lt_of_le hbb hhi)] at c3;rw [<-BWR.cell (p:=⟨b,off+k*8+4,none⟩) (Nat.lt_of_lt_of_le hbb hhi)] at c4;rw [<-BWR.cell (p:=⟨b,off+k*8+5,none⟩) (Nat.lt_of_lt_of_le hbb hhi)] at c5;rw [<-BWR.cell (p:=⟨b,off+k*8+6,none⟩) (Nat.lt_of_lt_of_le hbb hhi)] at c6;rw [<-BWR.cell (p:=⟨b,off+k*8+7,none⟩) (Nat.lt_of_lt_of_le hbb hhi)] at c7;have hxx:=(hnx.block _ hsx).trans HX.out;have d0:=Zaa hxx 0;have d1:=Zaa hxx 1;have d2:=Zaa hxx 2;have d3:=Zaa hxx 3;have d4:=Zaa hxx 4;have d5:=Zaa hxx 5;have d6:=Zaa hxx 6;have d7:=Zaa hxx 7;simp at d0 d1 d2 d3 d4 d5 d6 d7
   have hb1:b<wr.heap.size:=by omega
   have hb2:w.heap.size<wr.heap.size:=by omega
   have hki:(0:Int)<=(k:Int):=by omega
   have hkj:(k:Int)<(ps.length:Int):=by omega
   have hq:=fun W=>ZeC p.2 r.2 p.1 r.1 W
   unfold recC at hq;obtain⟨q,hqq⟩:∃ q,q=Zak p.1 r.1:=⟨_,rfl⟩;rw [<-hqq] at hq;have HK:=hide hq;have HQQ:=hide hqq;have HPP:=hide (ZbB hp);clear hq hqq hp hat hxx;cases q
   ·go_wp2
    go_region_held3 (fun W=>W.cell? ⟨b,off+k*8,none⟩=some (.int .i64 p.1.area)/\W.cell? ⟨b,off+k*8+1,none⟩=some (.int .i64 p.1.kind)/\W.cell? ⟨b,off+k*8+2,none⟩=some (.int .i64 p.1.owner)/\W.cell? ⟨b,off+k*8+3,none⟩=some (.int .i64 p.1.key)/\W.cell? ⟨b,off+k*8+4,none⟩=some (.int .i64 p.1.seq)/\W.cell? ⟨b,off+k*8+5,none⟩=some (p.2)/\W.cell? ⟨b,off+k*8+6,none⟩=some (.int .i64 p.1.cost)/\W.cell? ⟨b,off+k*8+7,none⟩=some (.bool p.1.far)/\W.cell? ⟨w.heap.size,0,none⟩=some (.int .i64 r.1.area)/\W.cell? ⟨w.heap.size,1,none⟩=some (.int .i64 r.1.kind)/\W.cell? ⟨w.heap.size,2,none⟩=some (.int .i64 r.1.owner)/\W.cell? ⟨w.heap.size,3,none⟩=some (.int .i64 r.1.key)/\W.cell? ⟨w.heap.size,4,none⟩=some (.int .i64 r.1.seq)/\W.cell? ⟨w.heap.size,5,none⟩=some (r.2)/\W.cell? ⟨w.heap.size,6,none⟩=some (.int .i64 r.1.cost)/\W.cell? ⟨w.heap.size,7,none⟩=some (.bool r.1.far)) (first | go_keep | (refine ⟨?_,?_,?_,?_,?_,?_,?_,?_,?_,?_,?_,?_,?_,?_,?_,?_⟩ <;> (rw [hbc.cell (by assumption)];assumption))) (first | (go_at_call 40;refine (HK.out _).mono ?_;rintro e w1 ⟨rfl,hbc⟩))
    go_wp2
    go_roundw
    case rel=>exact ⟨k+1,by omega,by go_num,(fun j hj y hy=>by
     by_cases e:j=k
     ·subst e;rw [HPP.out] at hy;cases hy;exact HQQ.out.symm
     ·exact HALL.out j (by omega) y hy),hnx.trans ((Below.refl _ _).drew.trans (hbc.mono hsz))⟩
    case measure=>simp [intOf];omega
   ·go_wp2
    go_region_held3 (fun W=>W.cell? ⟨b,off+k*8,none⟩=some (.int .i64 p.1.area)/\W.cell? ⟨b,off+k*8+1,none⟩=some (.int .i64 p.1.kind)/\W.cell? ⟨b,off+k*8+2,none⟩=some (.int .i64 p.1.owner)/\W.cell? ⟨b,off+k*8+3,none⟩=some (.int .i64 p.1.key)/\W.cell? ⟨b,off+k*8+4,none⟩=some (.int .i64 p.1.seq)/\W.cell? ⟨b,off+k*8+5,none⟩=some (p.2)/\W.cell? ⟨b,off+k*8+6,none⟩=some (.int .i64 p.1.cost)/\W.cell? ⟨b,off+k*8+7,none⟩=some (.bool p.1.far)/\W.cell? ⟨w.heap.size,0,none⟩=some (.int .i64 r.1.area)/\W.cell? ⟨w.heap.size,1,none⟩=some (.int .i64 r.1.kind)/\W.cell? ⟨w.heap.size,2,none⟩=some (.int .i64 r.1.owner)/\W.cell? ⟨w.heap.size,3,none⟩=some (.int .i64 r.1.key)/\W.cell? ⟨w.heap.size,4,none⟩=some (.int .i64 r.1.seq)/\W.cell? ⟨w.heap.size,5,none⟩=some (r.2)/\W.cell? ⟨w.heap.size,6,none⟩=some (.int .i64 r.1.cost)/\W.cell? ⟨w.heap.size,7,none⟩=some (.bool r.1.far)) (first | go_keep | (refine ⟨?_,?_,?_,?_,?_,?_,?_,?_,?_,?_,?_,?_,?_,?_,?_,?_⟩ <;> (rw [hbc.cell (by assumption)];assumption))) (first | (go_at_call 40;refine (HK.out _).mono ?_;rintro e w1 ⟨rfl,hbc⟩))
    go_wp2
    go_ret
    exact⟨ZiY (by rw [Zhc HPP.out HQQ.out.symm HALL.out]),BWR.trans ((Below.refl _ _).drew.trans (hbc.mono (show w.heap.size<=wr.heap.size by omega)))⟩
  ·have hkn:k=ps.length:=by omega
   have KN:=hide hkn;clear hkn
   go_wp2
   go_ret
   exact⟨ZiY (by rw [ZiH (by have h:=HALL.out;rw [KN.out] at h;simpa [fsts] using h)]),BWR⟩
theorem Zjv (v:Value)(ps:List RP)(hi:Nat)(r:RecD)(w:World)(hv:RecsIn w hi v ps)(hhi:hi<=w.heap.size)(hn:tot ps<=1048576):
  Calls Tryz.prog 103 #[v,.agg (keyV r)] w fun e w'=>e=.returned (plV (atZ (fsts ps) r))/\Below w.heap.size w w':=by
 have hnl:=Za3 ps;obtain⟨a1,c1,rfl⟩:=Zac hv.row;have HV:=hide hv;clear hv;have BX:=(Below.refl w.heap.size w).alloc (Nat.le_refl _) (.cells (keyV r) 140);have hx:=heap_alloc_new w (.cells (keyV r) 140);obtain⟨wx,hwx⟩:∃ wx,wx=w.alloc (.cells (keyV r) 140):=⟨_,rfl⟩;rw [<-hwx] at BX hx;unfold keyV at *
 go_enter Tryz.func103,Tryz.ntmps103
 go_wp2
 rw [<-hwx];have HX:=hide hx;clear hwx hx
 go_loopw [10] (fun i wr=>∃ (k:Nat),k<=ps.length/\i=.int .i64 k/\(∀ j,j<k->∀ y,(fsts ps)[j]? = some y->Zak y r=false)/\Below wx.heap.size wx wr) (fun i _=>ps.length-(intOf i).toNat)
 case atStart=>exact ⟨0,by omega,rfl,by omega,Below.refl _ _⟩
 case round=>
  obtain⟨k,hk,rfl,hall,hnx⟩:=hrel;have HALL:=hide hall;clear hall;have hsz:=hnx.size;have hsx:=Zab HX.out;have BWR:Below w.heap.size w wr:=BX.trans (hnx.mono (by omega))
  by_cases hlt:k<ps.length
  ·obtain ⟨p,hp⟩:∃ p,ps[k]? = some p:=⟨ps[k],List.getElem?_eq_getElem hlt⟩
   have hat:=HV.out.at;obtain⟨b,off,cap',hve,hbb,c0,c1,c2,c3,c4,c5,c6,c7,hnr⟩:=hat.cells k p hp;cases hve
   rw [<-BWR.cell (p:=⟨b,off+k*8,none⟩) (Nat.lt_of_lt_of_le hbb hhi)] at c0;rw [<-BWR.cell (p:=⟨b,off+k*8+1,none⟩) (Nat.lt_of_lt_of_le hbb hhi)] at c1;rw [<-BWR.cell (p:=⟨b,off+k*8+2,none⟩) (Nat.lt_of_lt_of_le hbb hhi)] at c2;rw [<-BWR.cell (p:=⟨b,off+k*8+3,none⟩) (Nat.lt_of_lt_of_le hbb hhi)] at c3;rw [<-BWR.cell (p:=⟨b,off+k*8+4,none⟩) (Nat.lt_of_lt_of_le hbb hhi)] at c4;rw [<-BWR.cell (p:=⟨b,off+k*8+5,none⟩) (Nat.lt_of_lt_of_le hbb hhi)] at c5;rw [<-BWR.cell (p:=⟨b,off+k*8+6,none⟩) (Nat.lt_of_lt_of_le hbb hhi)] at c6;rw [<-BWR.cell (p:=⟨b,off+k*8+7,none⟩) (Nat.lt_of_lt_of_le hbb hhi)] at c7;obtain⟨pa,pc,hpn⟩:=hnr.shape;rw [hpn] at c5;have hxx:=(hnx.block _ hsx).trans HX.out;have hki:(0:Int)<=(k:Int):=by omega
   have hkj:(k:Int)<(ps.length:Int):=by omega
   have HK:=hide (fun W=>Zfb p.1.area p.1.kind p.1.owner p.1.key p.1.seq (.slice pa p.1.near.length pc) p.1.cost p.1.far W)
   have e0:=fun W=>Zmi W p.1.area p.1.kind p.1.owner p.1.key r.area r.kind r.owner r.key
   obtain⟨q,hqq⟩:∃ q,q=Zak p.1 r:=⟨_,rfl⟩;rw [show (p.1.area==r.area&&p.1.kind==r.kind&&p.1.owner==r.owner&&p.1.key==r.key)=q by rw [hqq];rfl] at e0
   have HQQ:=hide hqq;have HPP:=hide (ZbB hp);clear hqq hp hat hnr hpn;obtain⟨o,ho⟩:∃ o,o=(.cells #[.int .i64 p.1.area,.int .i64 p.1.kind,.int .i64 p.1.owner,.int .i64 p.1.key,.int .i64 p.1.seq,.slice pa p.1.near.length pc,.int .i64 p.1.cost,.bool p.1.far] 40:Obj):=⟨_,rfl⟩;have hz:=heap_alloc_new wr o;have hxz:=(Below.heap_alloc wr o w.heap.size (by omega)).trans hxx
   have BZ:Below wr.heap.size wr (wr.alloc o):=(Below.refl _ _).alloc (Nat.le_refl _) _;obtain⟨wz,hwz⟩:∃ wz,wz=wr.alloc o:=⟨_,rfl⟩;rw [<-hwz] at hz hxz BZ;rw [ho] at hwz hz;have hbz:=BZ.size;clear ho hxx;cases q
   ·go_wp2
    rw [<-hwz];obtain⟨z,hzz⟩:∃ z,z=wr.heap.size:=⟨_,rfl⟩;rw [<-hzz] at hz |-;have d0:=Zaa hz 0;have d1:=Zaa hz 1;have d2:=Zaa hz 2;have d3:=Zaa hz 3;have d4:=Zaa hz 4;have d5:=Zaa hz 5;have d6:=Zaa hz 6;have d7:=Zaa hz 7;have k0:=Zaa hxz 0;have k1:=Zaa hxz 1;have k2:=Zaa hxz 2;have k3:=Zaa hxz 3;simp at d0 d1 d2 d3 d4 d5 d6 d7 k0 k1 k2 k3
    have hb1:=Zab hz;have hb2:=Zab hxz;clear hzz hwz hz hxz c0 c1 c2 c3 c4 c5 c6 c7
    go_region_held3 (fun W=>W.cell? ⟨z,0,none⟩=some (.int .i64 p.1.area)/\W.cell? ⟨z,1,none⟩=some (.int .i64 p.1.kind)/\W.cell? ⟨z,2,none⟩=some (.int .i64 p.1.owner)/\W.cell? ⟨z,3,none⟩=some (.int .i64 p.1.key)/\W.cell? ⟨z,4,none⟩=some (.int .i64 p.1.seq)/\W.cell? ⟨z,5,none⟩=some (.slice pa p.1.near.length pc)/\W.cell? ⟨z,6,none⟩=some (.int .i64 p.1.cost)/\W.cell? ⟨z,7,none⟩=some (.bool p.1.far)/\W.cell? ⟨w.heap.size,0,none⟩=some (.int .i64 r.area)/\W.cell? ⟨w.heap.size,1,none⟩=some (.int .i64 r.kind)/\W.cell? ⟨w.heap.size,2,none⟩=some (.int .i64 r.owner)/\W.cell? ⟨w.heap.size,3,none⟩=some (.int .i64 r.key)) (first | go_keep | (refine ⟨?_,?_,?_,?_,?_,?_,?_,?_,?_,?_,?_,?_⟩ <;> (rw [hbc.cell (by assumption)];assumption))) (first | (refine (HK.out _).mono ?_;rintro e w1 ⟨rfl,hbc⟩))
    go_wp2
    go_roundw
    case rel=>exact ⟨k+1,by omega,by go_num,(fun j hj y hy=>by
     by_cases e:j=k
     ·subst e;rw [HPP.out] at hy;cases hy;exact HQQ.out.symm
     ·exact HALL.out j (by omega) y hy),hnx.trans ((BZ.mono hsz).trans ((Below.refl _ _).drew.trans (hbc.mono (show wx.heap.size<=wz.heap.size by omega))))⟩
    case measure=>simp [intOf];omega
   ·go_wp2
    rw [<-hwz];obtain⟨z,hzz⟩:∃ z,z=wr.heap.size:=⟨_,rfl⟩;rw [<-hzz] at hz |-;have d0:=Zaa hz 0;have d1:=Zaa hz 1;have d2:=Zaa hz 2;have d3:=Zaa hz 3;have d4:=Zaa hz 4;have d5:=Zaa hz 5;have d6:=Zaa hz 6;have d7:=Zaa hz 7;have k0:=Zaa hxz 0;have k1:=Zaa hxz 1;have k2:=Zaa hxz 2;have k3:=Zaa hxz 3;simp at d0 d1 d2 d3 d4 d5 d6 d7 k0 k1 k2 k3
    have hb1:=Zab hz;have hb2:=Zab hxz;clear hzz hwz hz hxz c0 c1 c2 c3 c4 c5 c6 c7
    go_region_held3 (fun W=>W.cell? ⟨z,0,none⟩=some (.int .i64 p.1.area)/\W.cell? ⟨z,1,none⟩=some (.int .i64 p.1.kind)/\W.cell? ⟨z,2,none⟩=some (.int .i64 p.1.owner)/\W.cell? ⟨z,3,none⟩=some (.int .i64 p.1.key)/\W.cell? ⟨z,4,none⟩=some (.int .i64 p.1.seq)/\W.cell? ⟨z,5,none⟩=some (.slice pa p.1.near.length pc)/\W.cell? ⟨z,6,none⟩=some (.int .i64 p.1.cost)/\W.cell? ⟨z,7,none⟩=some (.bool p.1.far)/\W.cell? ⟨w.heap.size,0,none⟩=some (.int .i64 r.area)/\W.cell? ⟨w.heap.size,1,none⟩=some (.int .i64 r.kind)/\W.cell? ⟨w.heap.size,2,none⟩=some (.int .i64 r.owner)/\W.cell? ⟨w.heap.size,3,none⟩=some (.int .i64 r.key)) (first | go_keep | (refine ⟨?_,?_,?_,?_,?_,?_,?_,?_,?_,?_,?_,?_⟩ <;> (rw [hbc.cell (by assumption)];assumption))) (first | (refine (HK.out _).mono ?_;rintro e w1 ⟨rfl,hbc⟩))
    go_wp2
    go_returns
    refine⟨?_,BWR.trans ((BZ.mono (by omega)).trans ((Below.refl _ _).drew.trans (hbc.mono (show w.heap.size<=wz.heap.size by omega))))⟩
    rw [Zhc HPP.out HQQ.out.symm HALL.out];unfold plV;rw [if_neg (by omega)]
    rfl
  ·have hkn:k=ps.length:=by omega
   have KN:=hide hkn;clear hkn
   go_wp2
   go_returns
   refine⟨?_,BWR⟩
   rw [ZiH (by have h:=HALL.out;rw [KN.out] at h;simpa [fsts] using h)]
   rfl
end Go.Proofs.YtcimbiinljcifaaGreat
