/-
  Parts.
-/
import Derived.Test.YtikloccefmofdaaGreatFi4
namespace Go.Proofs.YtikloccefmofdaaGreat
open Go.RowKit
set_option linter.unusedSimpArgs false
set_option linter.unusedVariables false
set_option maxRecDepth 100000
set_option maxHeartbeats 8000000
variable {a b c d:Int}{B hi lo p:Nat}{v:Value}{W W':World}
theorem Tryz.infoRec :(Tryz.prog.info? 37).map (fun i=>(i.zero,i.size,i.bytes))=some (some (.agg (recC Za9 (.slice none 0 0))),8,80):=by kernel_rfl
def fsts (ps:List RP):List RecD:=ps.map (·.1)
theorem Zbf {ps:List RP}{i:Nat}{p:RP}(h:ps[i]? = some p):(fsts ps)[i]? = some p.1:=by simp [fsts,h]
def ZeI (W:World)(p:Nat)(a b c d:Int):Prop:=(W.cell? ⟨p,0,none⟩=some (.int .i64 a)/\W.cell? ⟨p,1,none⟩=some (.int .i64 b)/\W.cell? ⟨p,2,none⟩=some (.int .i64 c)/\W.cell? ⟨p,3,none⟩=some (.int .i64 d))/\W.frozen? ⟨p,0,none⟩=false/\W.frozen? ⟨p,1,none⟩=false/\W.frozen? ⟨p,2,none⟩=false/\W.frozen? ⟨p,3,none⟩=false
theorem ZeI.lt (h:ZeI W p a b c d):p<W.heap.size:=World.block_lt_of_cell? W _ h.1.1
theorem ZeI.below {w2:World}(h:ZeI W p a b c d)(hb:Below W.heap.size W w2):ZeI w2 p a b c d:=by
 have hp:=h.lt;obtain⟨⟨h0,h1,h2,h3⟩,f0,f1,f2,f3⟩:=h;refine⟨⟨?_,?_,?_,?_⟩,?_,?_,?_,?_⟩
 ·rw [hb.cell (p:=⟨p,0,none⟩) hp];exact h0
 ·rw [hb.cell (p:=⟨p,1,none⟩) hp];exact h1
 ·rw [hb.cell (p:=⟨p,2,none⟩) hp];exact h2
 ·rw [hb.cell (p:=⟨p,3,none⟩) hp];exact h3
 ·rw [hb.frozen (p:=⟨p,0,none⟩) hp];exact f0
 ·rw [hb.frozen (p:=⟨p,1,none⟩) hp];exact f1
 ·rw [hb.frozen (p:=⟨p,2,none⟩) hp];exact f2
 ·rw [hb.frozen (p:=⟨p,3,none⟩) hp];exact f3
theorem ZeI.alloc (h:ZeI W p a b c d)(o:Obj):ZeI (W.alloc o) p a b c d:=h.below ((YAC _ _).alloc (YA _) _)
theorem ZeI.same (h:ZeI W p a b c d)(e:W.heap=W'.heap):ZeI W' p a b c d:=by
 unfold ZeI World.cell? World.frozen? at *;rw [<-e];exact h
def nilC:Array Value:=#[.int .i64 0,.int .i64 0,.int .i64 0,.int .i64 0,.int .i64 0,.slice none 0 0,.int .i64 0,.bool false]
theorem as1_1 (v:Value)(w:World):(Instr.typeAssert (.iface 225 v) 200 225 true).run Tryz.prog w=.ok (.tuple #[v,.bool true]) w:=by kernel_rfl
theorem as2_1 (v:Value)(w:World):(Instr.typeAssert (.iface 226 v) 200 225 true).run Tryz.prog w=.ok (.tuple #[.agg nilC,.bool false]) w:=by kernel_rfl
theorem as2_2 (v:Value)(w:World):(Instr.typeAssert (.iface 226 v) 200 226 true).run Tryz.prog w=.ok (.tuple #[v,.bool true]) w:=by kernel_rfl
theorem as3_1 (v:Value)(w:World):(Instr.typeAssert (.iface 227 v) 200 225 true).run Tryz.prog w=.ok (.tuple #[.agg nilC,.bool false]) w:=by kernel_rfl
theorem as3_2 (v:Value)(w:World):(Instr.typeAssert (.iface 227 v) 200 226 true).run Tryz.prog w=.ok (.tuple #[.agg nilC,.bool false]) w:=by kernel_rfl
theorem as3_3 (v:Value)(w:World):(Instr.typeAssert (.iface 227 v) 200 227 true).run Tryz.prog w=.ok (.tuple #[v,.bool true]) w:=by kernel_rfl
theorem ZjX (v1:Value)(x:RecD)(w:World)(hl:x.near.length<=1048576)(hv:Zat w v1 x.near w.heap.size):
  Calls Tryz.prog 160 #[.iface 225 (.agg (recC x v1))] w fun e w'=>e=.returned (.bool (Zbn x.owner x.near&&x.cost==0 && !x.far))/\Below w.heap.size w w':=by
 obtain⟨p1,c1,rfl⟩:=hv.shape;have HN:=hide (fun W (h:Below w.heap.size w W)=>ZoG x.owner (.slice p1 x.near.length c1) x.near W hl (hv.then h));obtain⟨qn,hqn⟩:∃ q,q=Zbn x.owner x.near:=⟨_,rfl⟩;rw [<-hqn] at HN |-;clear hqn hv;obtain⟨area,kind,owner,key,seq,ns,cost,far⟩:=x;unfold recC;simp only [] at HN hl |-
 have a1:=as1_1;have B0:Below w.heap.size w (w.alloc (.cells #[.int .i64 area,.int .i64 kind,.int .i64 owner,.int .i64 key,.int .i64 seq,.slice p1 ns.length c1,.int .i64 cost,.bool far] 225)):=(YAC _ _).alloc (YA _) _;have NEW:=hide (YAE w (.cells #[.int .i64 area,.int .i64 kind,.int .i64 owner,.int .i64 key,.int .i64 seq,.slice p1 ns.length c1,.int .i64 cost,.bool far] 225))
 go_enter Tryz.func160,Tryz.ntmps160
 go_wp2_with fail
 refine (HN.out _ B0).mono ?_;rintro e w1 ⟨rfl,b1⟩;have hx1:w1.heap[w.heap.size]? = some (.cells #[.int .i64 area,.int .i64 kind,.int .i64 owner,.int .i64 key,.int .i64 seq,.slice p1 ns.length c1,.int .i64 cost,.bool far] 225):=by rw [b1.block _ (by simp)];exact NEW.out
 have f6:=Zaa hx1 6;have f7:=Zaa hx1 7;simp at f6 f7;have B1:=B0.trans (b1.mono B0.size);clear hx1 b1 NEW HN;cases qn
 ·go_wp2;go_ret;exact⟨by simp,B1⟩
 by_cases hc:cost=0
 case neg=>
  have hd:(cost==0)=false:=by simpa using hc
  go_wp2;go_ret;exact⟨by simp [hd],B1⟩
 subst hc;cases far
 all_goals
  go_wp2;go_ret;exact⟨by simp,B1⟩
theorem ZhJ (v1:Value)(x:RecD)(w:World)(hl:x.near.length<=1048576)(hv:Zat w v1 x.near w.heap.size):
  Calls Tryz.prog 160 #[.iface 226 (.agg (recC x v1))] w fun e w'=>e=.returned (.bool (x.near.length==0&&inB x.cost 0 60000 && !x.far))/\Below w.heap.size w w':=by
 obtain⟨p1,c1,rfl⟩:=hv.shape;clear hv;have H5:=hide (Za5 x.cost 0 60000);obtain⟨q5,hq5⟩:∃ q,q=inB x.cost 0 60000:=⟨_,rfl⟩;rw [<-hq5] at H5 |-;clear hq5;obtain⟨area,kind,owner,key,seq,ns,cost,far⟩:=x;unfold recC;simp only [] at H5 hl |-
 have a1:=as2_1;have a2:=as2_2;have B0:Below w.heap.size w (w.alloc (.cells #[.int .i64 area,.int .i64 kind,.int .i64 owner,.int .i64 key,.int .i64 seq,.slice p1 ns.length c1,.int .i64 cost,.bool far] 226)):=(YAC _ _).alloc (YA _) _;by_cases hn0:ns.length=0
 case neg=>
  have hd:((ns.length:Int)==0)=false:=by simp;intro h;rw [h] at hn0;exact hn0 rfl
  have hd2:(ns.length==0)=false:=by simpa using hn0
  rw [hd2];clear hn0 hd2
  go_enter Tryz.func160,Tryz.ntmps160
  go_wp2;go_ret;exact⟨by simp,B0⟩
 have hd:((ns.length:Int)==0)=true:=by simp;exact List.length_eq_zero_iff.1 hn0
 have hd2:(ns.length==0)=true:=by simpa using hn0
 rw [hd2];clear hn0 hd2
 go_enter Tryz.func160,Tryz.ntmps160
 go_wp2_with fail
 refine (H5.out _).mono ?_;rintro e w1 ⟨rfl,rfl⟩;cases q5
 ·go_wp2;go_ret;exact⟨by simp,B0⟩
 cases far
 all_goals
  go_wp2;go_ret;exact⟨by simp,B0⟩
theorem ZiN (v1:Value)(x:RecD)(w:World)(hl:x.near.length<=1048576)(hv:Zat w v1 x.near w.heap.size):
  Calls Tryz.prog 160 #[.iface 227 (.agg (recC x v1))] w fun e w'=>e=.returned (.bool (x.near.length==0&&(inB x.cost 1 1000||x.cost==60000)))/\Below w.heap.size w w':=by
 obtain⟨p1,c1,rfl⟩:=hv.shape;clear hv;have H5:=hide (Za5 x.cost 1 1000);obtain⟨q5,hq5⟩:∃ q,q=inB x.cost 1 1000:=⟨_,rfl⟩;rw [<-hq5] at H5 |-;clear hq5;obtain⟨area,kind,owner,key,seq,ns,cost,far⟩:=x;unfold recC;simp only [] at H5 hl |-
 have a1:=as3_1;have a2:=as3_2;have a3:=as3_3;have B0:Below w.heap.size w (w.alloc (.cells #[.int .i64 area,.int .i64 kind,.int .i64 owner,.int .i64 key,.int .i64 seq,.slice p1 ns.length c1,.int .i64 cost,.bool far] 227)):=(YAC _ _).alloc (YA _) _;by_cases hn0:ns.length=0
 case neg=>
  have hd:((ns.length:Int)==0)=false:=by simp;intro h;rw [h] at hn0;exact hn0 rfl
  have hd2:(ns.length==0)=false:=by simpa using hn0
  rw [hd2];clear hn0 hd2
  go_enter Tryz.func160,Tryz.ntmps160
  go_wp2;go_ret;exact⟨by simp,B0⟩
 have hd:((ns.length:Int)==0)=true:=by simp;exact List.length_eq_zero_iff.1 hn0
 have hd2:(ns.length==0)=true:=by simpa using hn0
 rw [hd2];clear hn0 hd2
 go_enter Tryz.func160,Tryz.ntmps160
 go_wp2_with fail
 refine (H5.out _).mono ?_;rintro e w1 ⟨rfl,rfl⟩;cases q5
 all_goals
  go_wp2;go_ret;exact⟨by simp,B0⟩
abbrev WP:=WayD × Value
def encW (p:WP):List Value:=[.int .i64 p.1.to,.int .i64 p.1.cost,p.2]
def Zbl:WayD:=⟨0,0,[]⟩
theorem Zbg (p:WP):(encW p).length=3:=rfl
def ZcW (W:World)(v:Value)(ps:List WP)(B:Nat):Prop:=ZaU encW 3 W v ps B/\∀ p∈ps,ZaI W p.2 p.1.hops B
theorem ZcW.shape {ps:List WP}(h:ZcW W v ps B):∃ a cap,v=.slice a ps.length cap:=by
 obtain⟨⟨a,cap,h,_⟩,_⟩:=h;exact⟨a,cap,h⟩
theorem ZcW.later {ps:List WP}{C:Nat}(h:ZcW W v ps B)(hb:Below C W W')(hBC:B<=C):ZcW W' v ps B:=
 ⟨Zav.later h.1 hb hBC,fun p hp=>Zav.later (h.2 p hp) hb hBC⟩
theorem ZcW.more {ps:List WP}{C:Nat}(h:ZcW W v ps B)(hBC:B<=C):ZcW W v ps C:=
 ⟨Zav.more h.1 hBC,fun p hp=>Zav.more (h.2 p hp) hBC⟩
theorem ZcW.then {ps:List WP}(h:ZcW W v ps W.heap.size)(hb:Below W.heap.size W W'):ZcW W' v ps W'.heap.size:=(h.later hb (YA _)).more hb.size
def ZbA (W:World)(lo hi:Nat)(p:WP):Prop:=W.ownsRow lo 3 1 p.2 p.1.hops.length (flat intE p.1.hops)/\∀ k,p.2.ownBlock=some k->k<hi
def ZcM (p q:WP):Prop:=∀ k,p.2.ownBlock=some k->q.2.ownBlock≠some k
structure WaysOwn (W:World) (lo hi:Nat) (v:Value) (ps:List WP):Prop where
 row:W.ownsRow lo 108 3 v ps.length (flat encW ps)
 top:∀ k,v.ownBlock=some k->k<hi
 nears:∀ p∈ps,ZbA W lo hi p
 apart:ps.Pairwise ZcM
theorem ZbA.keep {p:WP}(h:ZbA W lo hi p)(hk:∀ k,lo<=k->k<hi->k<W.heap.size->W'.heap[k]? = W.heap[k]?):ZbA W' lo hi p:=
 ⟨Zal h.1 (fun k e=>hk k (h.1.lt k e).1 (h.2 k e) (h.1.lt k e).2),h.2⟩
theorem ZbA.wide {lo' hi':Nat}{p:WP}(h:ZbA W lo hi p)(hl:lo'<=lo)(hh:hi<=hi'):ZbA W lo' hi' p:=
 ⟨Zaf h.1 hl,fun k e=>YAB (h.2 k e) hh⟩
theorem ZbA.at {p:WP}(h:ZbA W lo hi p):ZaI W p.2 p.1.hops hi:=by
 have h1:=Zam h.1;obtain⟨a,cap,hv,h2⟩:=h1;refine⟨a,cap,hv,?_⟩;rcases h2 with h0 | ⟨b,off,ha,hb1,hx⟩
 ·exact .inl h0
 ·exact .inr ⟨b,off,ha,h.2 b (by rw [hv,ha];rfl),hx⟩
theorem WaysOwn.keep {ps:List WP}(h:WaysOwn W lo hi v ps)(hk:∀ k,lo<=k->k<hi->k<W.heap.size->W'.heap[k]? = W.heap[k]?):WaysOwn W' lo hi v ps where
 row:=Zal h.row (fun k e=>hk k (h.row.lt k e).1 (h.top k e) (h.row.lt k e).2)
 top:=h.top
 nears:=fun p hp=>(h.nears p hp).keep hk
 apart:=h.apart
theorem WaysOwn.below {ps:List WP}(h:WaysOwn W lo hi v ps)(hb:Below B W W')(hB:hi<=B):WaysOwn W' lo hi v ps:=h.keep (fun k _ h2 _=>hb.block k (by omega))
theorem WaysOwn.wide {lo' hi':Nat}{ps:List WP}(h:WaysOwn W lo hi v ps)(hl:lo'<=lo)(hh:hi<=hi'):WaysOwn W lo' hi' v ps where
 row:=Zaf h.row hl
 top:=fun k e=>YAB (h.top k e) hh
 nears:=fun p hp=>(h.nears p hp).wide hl hh
 apart:=h.apart
theorem WaysOwn.at {ps:List WP}(h:WaysOwn W lo hi v ps):ZcW W v ps hi:=by
 refine⟨?_,fun p hp=>(h.nears p hp).at⟩;have h1:=Zam h.row;obtain⟨a,cap,hv,h2⟩:=h1;refine⟨a,cap,hv,?_⟩;rcases h2 with h0 | ⟨b,off,ha,hb1,hx⟩
 ·exact .inl h0
 ·exact .inr ⟨b,off,ha,h.top b (by rw [hv,ha];rfl),hx⟩
theorem WaysOwn.frame {l2 h2:Nat}{ps:List WP}(h:WaysOwn W lo hi v ps)(hb:Frame l2 h2 W W')(hB:hi<=l2\/h2<=lo):WaysOwn W' lo hi v ps:=h.keep (fun k h1 h2 h3=>hb.block k h3 (by omega))
theorem ZmS {ps:List WP}{p:WP}(h:ps.Pairwise ZcM)(hn:∀ q∈ps,ZbA W lo hi q)(hp:∀ k,p.2.ownBlock=some k->hi<=k):(ps++[p]).Pairwise ZcM:=by
 rw [YAM];refine⟨h,by simp,?_⟩;intro a ha b hb;have:b=p:=by simpa using hb
 subst this;intro k hk he;have h1:=(hn a ha).2 k hk;have h2:=hp k he;omega
def totW (ps:List WP):Nat:=(ps.map (fun p=>1+p.1.hops.length)).sum
theorem ZhG (p:WP)(ps:List WP):totW (p::ps)=1+p.1.hops.length+totW ps:=by simp [totW]
theorem ZlN (a b:List WP):totW (a++b)=totW a+totW b:=by simp [totW]
theorem ZgT (ps:List WP):ps.length<=totW ps:=by
 induction ps with
 | nil=>simp [totW]
 | cons p ps ih=>rw [ZhG,YAk];omega
theorem ZmO {ps:List WP}{p:WP}(h:p∈ps):p.1.hops.length<=totW ps:=by
 induction ps with
 | nil=>simp at h
 | cons q ps ih=>
  rw [ZhG];rcases YAb.1 h with rfl | h1
  ·omega
  ·have:=ih h1;omega
theorem ZcW.cells {ps:List WP}(h:ZcW W v ps B)(i:Nat)(p:WP)(hp:ps[i]? = some p):
  ∃ b off cap,v=.slice (some ⟨b,off,none⟩) ps.length cap/\b<B/\W.cell? ⟨b,off+i*3,none⟩=some (.int .i64 p.1.to)/\W.cell? ⟨b,off+i*3+1,none⟩=some (.int .i64 p.1.cost)/\W.cell? ⟨b,off+i*3+2,none⟩=some p.2/\ZaI W p.2 p.1.hops B:=by
 obtain⟨b,off,cap,hv,hb,hc⟩:=ZaU.cell h.1 Zbg i p hp;exact⟨b,off,cap,hv,hb,hc 0 _ rfl,hc 1 _ rfl,hc 2 _ rfl,h.2 p (YAG hp)⟩
abbrev putW (W:World) (g o:Nat) (p:WP):World:=((W.setCell ⟨g,o,none⟩ (.int .i64 p.1.to)).setCell ⟨g,o+1,none⟩ (.int .i64 p.1.cost)).setCell ⟨g,o+2,none⟩ p.2
theorem Zim (W:World)(g o:Nat)(p:WP):W.grownBy (putW W g o p) (some g):=Zai (Zai (Zaw W g _ _) (Zaw _ g _ _)) (Zaw _ g _ _)
theorem Zpn {base g cap n j:Nat}{xs:List WP}{p:WP}(h:W.ownsRow base 108 3 (.slice (some ⟨g,0,none⟩) n cap) n (flat encW xs))(hj:j<xs.length):
  (putW W g (j*3) p).ownsRow base 108 3 (.slice (some ⟨g,0,none⟩) n cap) n (flat encW (xs.set j p)):=by
 have e:(((flat encW xs).set (j*3) (.int .i64 p.1.to)).set (j*3+1) (.int .i64 p.1.cost)).set (j*3+2) p.2=flat encW (xs.set j p):=Zi4 Zbg xs j p hj;rw [<-e];exact (((h.stored (j*3) _).1.stored (j*3+1) _).1.stored (j*3+2) _).1
structure NetD where
 n:Int
 ls:List Lk
 ts:List Th
 deriving DecidableEq
def ZmR (W:World)(v:Value)(x:NetD)(B:Nat):Prop:=∃ v1 v2,v=.agg #[.int .i64 x.n,v1,v2]/\ZaK W v1 x.ls B/\ZaS W v2 x.ts B
theorem ZmR.then {x:NetD}(h:ZmR W v x W.heap.size)(hb:Below W.heap.size W W'):ZmR W' v x W'.heap.size:=by
 obtain⟨v1,v2,hv,h1,h2⟩:=h;exact⟨v1,v2,hv,h1.then hb,h2.then hb⟩

theorem ZjU (ls:List Lk)(v:Int):Zas ls v=ZbB (fun u=>decide (0<(Zed ls v u).length)) 0 3:=by
 simp only [Zas,ZbB,List.filter_cons,List.filter_nil,List.nil_append]
 repeat' split
 all_goals simp_all
theorem Zio (n:Value)(v tv:Value)(ls:List Lk)(f:Int)(w:World)(hls:ls.length<=1048576)(hv:ZaK w v ls w.heap.size):
  Calls Tryz.prog 22 #[.agg #[n,v,tv],.int .i64 f] w fun e w'=>∃ x,e=.returned x/\w'.ownsRow w.heap.size 3 1 x (Zas ls f).length (Zbb (Zas ls f))/\Below w.heap.size w w':=by
 have HV:=hide hv;clear hv;rw [ZjU]
 go_enter Tryz.func22,Tryz.ntmps22
 go_wp2
 go_loopw [5,6] (fun x i wr=>∃ k:Nat,k<=3/\i=.int .i64 (0+(k:Int))/\Below w.heap.size w wr/\wr.heap[w.heap.size]? = some (.cells #[n,v,tv] 27)/\wr.ownsRow (w.heap.size+1) 3 1 x (ZbB (fun u=>decide (0<(Zed ls f u).length)) 0 k).length (Zbb (ZbB (fun u=>decide (0<(Zed ls f u).length)) 0 k))) (fun _ i _=>4-(intOf i).toNat)
 case atStart=>
  refine⟨0,by omega,rfl,ZaB _ _,?_,?_⟩
  ·rw [YAH _ _ _ (show w.heap.size<(w.alloc (.cells #[n,v,tv] 27)).heap.size by simp),YAE]
  ·have h0:=World.ownsRow_lit (base:=w.heap.size+1) (w.alloc (.cells #[n,v,tv] 27)) (#[]:Array Value) 0 (by simp) (by decide) (e:=3) (size:=1) rfl;simpa [ZbB,Zbb] using h0
 case round=>
  obtain⟨k,hk,rfl,hb,hx,hown⟩:=hrel;have c0:wr.cell? ⟨w.heap.size,0,none⟩=some n:=by rw [Zaa hx];rfl
  have c1:wr.cell? ⟨w.heap.size,1,none⟩=some v:=by rw [Zaa hx];rfl
  have c2:wr.cell? ⟨w.heap.size,2,none⟩=some tv:=by rw [Zaa hx];rfl
  have hxl:=Zab hx;have HX:=hide hx;have OW:=hide hown;clear hx hown;by_cases hlt:k<3
  ·go_wp2_with fail
   refine (Zpz n v tv ls f _ wr hls (HV.out.then hb)).mono ?_;rintro e w1 ⟨x1,rfl,hox,b1⟩;obtain⟨a1,cp1,rfl⟩:=ZcD hox;clear hox;have hown1:=Zad OW.out b1 (YA _);have hx1:w1.heap[w.heap.size]? = some (.cells #[n,v,tv] 27):=by rw [b1.block _ hxl];exact HX.out
   have hb1:Below w.heap.size w w1:=hb.trans (b1.mono hb.size);have hz1:=b1.size;have hpl:=ZeC (fun u=>decide (0<(Zed ls f u).length)) 0 k;have HX1:=hide hx1;obtain⟨l2,hl20⟩:∃ l2,l2=ZbB (fun u=>decide (0<(Zed ls f u).length)) 0 (k+1):=⟨_,rfl⟩;have HL20:=hide hl20;have hps:Hid (l2=ZbB (fun u=>decide (0<(Zed ls f u).length)) 0 k++(if decide (0<(Zed ls f (0+(k:Int))).length) then [0+(k:Int)] else [])):=hl20;clear hl20;clear b1 hx1 c0 c1 c2 OW HX;generalize ZbB (fun u=>decide (0<(Zed ls f u).length)) 0 k=l at hown1 hpl hps;rw [Int.zero_add] at *;generalize (Zed ls f (k:Int)).length=c at hps |-;by_cases hc:0<(c:Int)
   ·have hc':0<c:=by omega
    have hl2:l2=l++[(k:Int)]:=by rw [hps.out];simp [hc']
    clear hc';have HL2:=hide hl2;clear hl2 hps
    go_wp2_with (first
     | (at_builtin;refine Zbp _ rfl _ _ 40 rfl (w.heap.size+1) 3 Tryz.underlying40 Tryz.info3 u5 l (k:Int) rfl (hown1.alloc _) ⟨w1.heap.size,0,none⟩ 1 rfl ?_ (by omega) (by simp;omega) ?_))
    ·rw [add_zero',World.cell?_alloc_at _ _ _ _ rfl];rfl
    intro v' w4 l' hl' hown' hgrow;have hb4:Below w.heap.size w w4:=(hb1.alloc (by omega) _).grown hgrow (by simp;omega) (fun k hk=>by have:=(hown1.lt k hk).1;omega);have hx4:w4.heap[w.heap.size]? = some (.cells #[n,v,tv] 27):=by
     rw [hgrow.block _ (by simp;omega) (fun h=>by have:=(hown1.lt _ h.symm).1;omega),YAH _ _ _ (by omega)];exact HX1.out
    have e:l'=l2:=by rw [hl'.out,HL2.out]
    subst e;have OW2:=hide hown';have HX4:=hide hx4;clear hgrow hown' hx4 hown1;go_wp2;go_roundw
    case rel=>exact ⟨k+1,by omega,by go_num,hb4,HX4.out,by rw [<-HL20.out];exact OW2.out⟩
    case measure=>simp [intOf];omega
   ·have hc':¬0<c:=by omega
    have hl2:l2=l:=by rw [hps.out];simp [hc']
    clear hc';subst hl2;have OW2:=hide hown1;clear hown1 hps;go_wp2;go_roundw
    case rel=>exact ⟨k+1,by omega,by go_num,hb1,HX1.out,by rw [<-HL20.out];exact OW2.out⟩
    case measure=>simp [intOf];omega
  ·have hk':k=3:=by omega
   subst hk';go_wp2;go_ret;exact⟨_,rfl,ZfP OW.out (by omega),hb⟩
theorem ZlF (n:Value)(v tv:Value)(ls:List Lk)(f:Int)(w:World)(hls:ls.length<=1048576)(hv:ZaK w v ls w.heap.size):
  Calls Tryz.prog 25 #[.agg #[n,v,tv],.int .i64 f] w fun e w'=>e=.returned (.bool (ZeW ls f))/\Below w.heap.size w w':=by
 have HV:=hide hv;clear hv
 go_enter Tryz.func25,Tryz.ntmps25
 go_wp2_with fail
 refine (Zio n v tv ls f _ hls (HV.out.then ((YAC _ _).alloc (YA _) _))).mono ?_;rintro e w1 ⟨x,rfl,hox,b1⟩;have hb1:Below w.heap.size w w1:=((YAC w.heap.size w).alloc (YA _) _).trans (b1.mono (by simp));obtain⟨zs,hzs⟩:∃ zs,zs=Zas ls f:=⟨_,rfl⟩;have hB:ZeW ls f=(decide (1<zs.length)&&(zs.head? == some 0)):=by rw [hzs];rfl
 have HB:=hide hB;rw [<-hzs] at hox;clear hB hzs b1;by_cases h1:1<zs.length
 ·obtain ⟨g,cap,rfl,hg,hl⟩:=ZeB hox (by omega);obtain⟨z,zr,rfl⟩:∃ z zr,zs=z::zr:=by
   cases zs with
   | nil=>simp at h1
   | cons z zr=>exact ⟨z,zr,rfl⟩
  have c0:w1.cell? ⟨g,0,none⟩=some (.int .i64 z):=by rw [hox.cellAt 0 (by omega)];rfl
  have hb:(decide (1<(z::zr).length)&&((z::zr).head? == some 0))=(z==0):=by
   rw [YAT h1];simp
  have HB2:Hid (ZeW ls f=(z==0)):=HB.out.trans hb;generalize (z::zr).length=m at hox h1 hl |-;have h1':(1:Int)<(m:Int):=by omega
  have h0':(0:Int)<(m:Int):=by omega
  clear hox hb HB;go_wp2;go_ret;exact⟨by rw [HB2.out];rfl,hb1⟩
 ·obtain ⟨a,cap,rfl⟩:=ZcD hox;have hb:(decide (1<zs.length)&&(zs.head? == some 0))=false:=by rw [YAe h1];rfl
  have HB2:Hid (ZeW ls f=false):=HB.out.trans hb;have h1':¬(1:Int)<(zs.length:Int):=by omega
  clear hox hb HB;go_wp2;go_ret;exact⟨by rw [HB2.out];rfl,hb1⟩

theorem ZiY (v1 v2:Value)(ns ms:List Nr)(w:World)(h1:Zat w v1 ns w.heap.size)(h2:Zat w v2 ms w.heap.size)(hl:ns.length<=1048576)(hm:ms.length<=9223372036854775807):
  Calls Tryz.prog 103 #[v1,v2] w fun e w'=>e=.returned (.bool (decide (ns=ms)))/\Below w.heap.size w w':=by
 obtain⟨p1,c1,rfl⟩:=h1.shape;obtain⟨p2,c2,rfl⟩:=h2.shape;have K1:=hide h1;have K2:=hide h2;clear h1 h2;by_cases hln:ns.length=ms.length
 case neg=>
  have hd:((ns.length:Int) != (ms.length:Int))=true:=by simp;omega
  have he:decide (ns=ms)=false:=YAe (fun h=>hln (by rw [h]));rw [he];clear he
  go_enter Tryz.func103,Tryz.ntmps103
  go_wp2;go_ret;exact⟨rfl,YAC _ _⟩
 have HLN:=hide hln;have hln2:((ns.length:Int) != (ms.length:Int))=false:=by simp;omega
 clear hln hm
 go_enter Tryz.func103,Tryz.ntmps103
 go_wp2;clear hln2
 go_loopw [13] (fun i wr=>∃ k:Nat,k<=ns.length/\i=.int .i64 k/\(∀ j,j<k->ns[j]? = ms[j]?)/\Below w.heap.size w wr) (fun i _=>ns.length-(intOf i).toNat)
 case atStart=>exact ⟨0,by omega,rfl,by omega,YAC _ _⟩
 case round=>
  obtain⟨k,hk,rfl,hall,hb⟩:=hrel;have HALL:=hide hall;clear hall;by_cases hlt:k<ns.length
  ·obtain ⟨x,hx⟩:∃ l,ns[k]? = some l:=⟨ns[k],YAA hlt⟩;obtain⟨y,hy⟩:∃ l,ms[k]? = some l:=⟨ms[k]'(by have:=HLN.out;omega),YAA _⟩;obtain⟨d1,o1,cp1,hv1,hd1,f0,f1⟩:=K1.out.cells k x hx;obtain⟨d2,o2,cp2,hv2,hd2,g0,g1⟩:=K2.out.cells k y hy;cases hv1;cases hv2;replace f0:=(hb.cell hd1).trans f0;replace f1:=(hb.cell hd1).trans f1;replace g0:=(hb.cell hd2).trans g0;replace g1:=(hb.cell hd2).trans g1;have hki:(0:Int)<=(k:Int):=by omega
   have hkj:(k:Int)<(ns.length:Int):=by omega
   have hkm:(k:Int)<(ms.length:Int):=by have:=HLN.out;omega
   have e0:=fun W=>Zmt W x.to x.c y.to y.c;have HXX:=hide hx;have HYY:=hide hy;clear hx hy;by_cases hxy:(⟨x.to,x.c⟩:Nr)=⟨y.to,y.c⟩
   ·rw [YAT hxy] at e0;have HXY:=hide hxy;clear hxy;go_wp2
    go_quiet (fail)
    go_wp2;go_roundw
    case rel=>exact ⟨k+1,by omega,by go_num,(fun j hj=>by
     by_cases e:j=k
     ·subst e;rw [HXX.out,HYY.out];exact congrArg some HXY.out
     ·exact HALL.out j (by omega)),⟨hb.os,hb.tape,hb.output,hb.size,hb.block⟩⟩
    case measure=>simp [intOf];omega
   ·rw [YAe hxy] at e0;have he:decide (ns=ms)=false:=YAe (fun h=>hxy (by
     subst h;have:=HXX.out.symm.trans HYY.out;exact Option.some.inj this))
    have HE:=hide he;clear hxy he;go_wp2
    go_quiet (fail)
    go_wp2;go_ret;exact⟨Zah HE.out,⟨hb.os,hb.tape,hb.output,hb.size,hb.block⟩⟩
  ·have he:decide (ns=ms)=true:=YAT (eq_all HLN.out (by rw [<-show k=ns.length by omega];exact HALL.out));have HE:=hide he;clear he;go_wp2;go_ret;exact⟨Zah HE.out,hb⟩
theorem Zjd (v1 v2:Value)(x y:RecD)(w:World)(h1:ZnU w v1 x w.heap.size)(h2:ZnU w v2 y w.heap.size)(hl:x.near.length<=1048576)(hm:y.near.length<=9223372036854775807):
  Calls Tryz.prog 69 #[v1,v2] w fun e w'=>e=.returned (.bool (Zej x y))/\Below w.heap.size w w':=by
 obtain⟨u1,rfl,k1⟩:=h1;obtain⟨u2,rfl,k2⟩:=h2;obtain⟨p1,c1,rfl⟩:=k1.shape;obtain⟨p2,c2,rfl⟩:=k2.shape;have HSK:=hide (Zki (.slice p1 x.near.length c1) (.slice p2 y.near.length c2) x y);have HEQ:=hide (fun W (h:Below w.heap.size w W)=>ZiY (.slice p1 x.near.length c1) (.slice p2 y.near.length c2) x.near y.near W (k1.then h) (k2.then h) hl hm);obtain⟨q,hq⟩:∃ q,q=Zap x y:=⟨_,rfl⟩;rw [<-hq] at HSK;obtain⟨r,hr⟩:∃ r,r=decide (x.near=y.near):=⟨_,rfl⟩;rw [<-hr] at HEQ;have hB:Zej x y=(q&&x.cost==y.cost&&x.far==y.far&&r):=by rw [hq,hr];rfl
 rw [hB];clear hB hq hr hl hm k1 k2;obtain⟨a0,a1,a2,a3,a4,ns,a6,a7⟩:=x;obtain⟨b0,b1,b2,b3,b4,ms,b6,b7⟩:=y;unfold recC at HSK |-;simp only [] at HSK HEQ |-
 go_enter Tryz.func69,Tryz.ntmps69
 go_wp2_with fail
 refine (HSK.out _).mono ?_;rintro e w1 ⟨rfl,bb1⟩;have bw1:Below w.heap.size w w1:=(ZaB _ _).trans (bb1.mono (by simp;omega));have hw0:w1.heap[w.heap.size]? = some (.cells #[.int .i64 a0,.int .i64 a1,.int .i64 a2,.int .i64 a3,.int .i64 a4,.slice p1 ns.length c1,.int .i64 a6,.bool a7] 37):=by
  rw [bb1.block _ (by simp;omega),YAH _ _ _ (by simp),YAE]
 have hw1:w1.heap[w.heap.size+1]? = some (.cells #[.int .i64 b0,.int .i64 b1,.int .i64 b2,.int .i64 b3,.int .i64 b4,.slice p2 ms.length c2,.int .i64 b6,.bool b7] 37):=by
  rw [bb1.block _ (by simp)];have:=YAE (w.alloc (.cells #[.int .i64 a0,.int .i64 a1,.int .i64 a2,.int .i64 a3,.int .i64 a4,.slice p1 ns.length c1,.int .i64 a6,.bool a7] 37)) (.cells #[.int .i64 b0,.int .i64 b1,.int .i64 b2,.int .i64 b3,.int .i64 b4,.slice p2 ms.length c2,.int .i64 b6,.bool b7] 37);simpa using this
 have s5:=Zaa hw0 5;have t5:=Zaa hw1 5;simp at s5 t5;clear bb1;cases q
 ·go_wp2;go_ret;exact⟨by simp,bw1⟩
 go_wp2_with fail
 refine (HEQ.out _ bw1).mono ?_;rintro e w2 ⟨rfl,bb2⟩;have bw2:Below w.heap.size w w2:=bw1.trans (bb2.mono bw1.size);have hx0:w2.heap[w.heap.size]? = _:=(bb2.block _ (Zab hw0)).trans hw0;have hx1:w2.heap[w.heap.size+1]? = _:=(bb2.block _ (Zab hw1)).trans hw1;have s6:=Zaa hx0 6;have s7:=Zaa hx0 7;have t6:=Zaa hx1 6;have t7:=Zaa hx1 7;simp at s6 s7 t6 t7;clear bb2 hw0 hw1 hx0 hx1 s5 t5;cases r
 ·go_wp2;go_ret;exact⟨by simp,bw2⟩
 by_cases h6:a6=b6
 case neg=>
  have hd:(a6==b6)=false:=by simpa using h6
  go_wp2;go_ret;exact⟨Zah (by rw [hd];simp),bw2⟩
 subst h6;cases a7 <;> cases b7
 all_goals
  go_wp2;go_ret;exact⟨by simp,bw2⟩
end Go.Proofs.YtikloccefmofdaaGreat
