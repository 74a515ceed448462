/-
  Parts.
-/
import Derived.Test.YtikloccefmofdaaGreatFi3
namespace Go.Proofs.YtikloccefmofdaaGreat
open Go.RowKit
set_option linter.unusedSimpArgs false
set_option linter.unusedVariables false
set_option maxRecDepth 100000
set_option maxHeartbeats 8000000
variable {bs:List Bool}{ls:List Lk}{B hi k lo:Nat}{v:Value}{W W':World}
abbrev RP:=RecD × Value
def encP (p:RP):List Value:=[.int .i64 p.1.area,.int .i64 p.1.kind,.int .i64 p.1.owner,.int .i64 p.1.key,.int .i64 p.1.seq,p.2,.int .i64 p.1.cost,.bool p.1.far]
theorem Zay (p:RP):(encP p).length=8:=rfl
def Za9:RecD:=⟨0,0,0,0,0,[],0,false⟩
def Zbu (W:World)(v:Value)(ps:List RP)(B:Nat):Prop:=ZaU encP 8 W v ps B/\∀ p∈ps,Zat W p.2 p.1.near B
theorem Zbu.shape {ps:List RP}(h:Zbu W v ps B):∃ a cap,v=.slice a ps.length cap:=by
 obtain⟨⟨a,cap,h,_⟩,_⟩:=h;exact⟨a,cap,h⟩
theorem Zbu.later {ps:List RP}{C:Nat}(h:Zbu W v ps B)(hb:Below C W W')(hBC:B<=C):Zbu W' v ps B:=
 ⟨Zav.later h.1 hb hBC,fun p hp=>Zav.later (h.2 p hp) hb hBC⟩
theorem Zbu.more {ps:List RP}{C:Nat}(h:Zbu W v ps B)(hBC:B<=C):Zbu W v ps C:=
 ⟨Zav.more h.1 hBC,fun p hp=>Zav.more (h.2 p hp) hBC⟩
theorem Zbu.then {ps:List RP}(h:Zbu W v ps W.heap.size)(hb:Below W.heap.size W W'):Zbu W' v ps W'.heap.size:=(h.later hb (YA _)).more hb.size
theorem Zbu.cells {ps:List RP}(h:Zbu W v ps B)(i:Nat)(p:RP)(hp:ps[i]? = some p):
  ∃ b off cap,v=.slice (some ⟨b,off,none⟩) ps.length cap/\b<B/\W.cell? ⟨b,off+i*8,none⟩=some (.int .i64 p.1.area)/\W.cell? ⟨b,off+i*8+1,none⟩=some (.int .i64 p.1.kind)/\W.cell? ⟨b,off+i*8+2,none⟩=some (.int .i64 p.1.owner)/\W.cell? ⟨b,off+i*8+3,none⟩=some (.int .i64 p.1.key)/\W.cell? ⟨b,off+i*8+4,none⟩=some (.int .i64 p.1.seq)/\W.cell? ⟨b,off+i*8+5,none⟩=some p.2/\W.cell? ⟨b,off+i*8+6,none⟩=some (.int .i64 p.1.cost)/\W.cell? ⟨b,off+i*8+7,none⟩=some (.bool p.1.far)/\Zat W p.2 p.1.near B:=by
 obtain⟨b,off,cap,hv,hb,hc⟩:=ZaU.cell h.1 Zay i p hp;exact⟨b,off,cap,hv,hb,hc 0 _ rfl,hc 1 _ rfl,hc 2 _ rfl,hc 3 _ rfl,hc 4 _ rfl,hc 5 _ rfl,hc 6 _ rfl,hc 7 _ rfl,h.2 p (YAG hp)⟩
def ZaF (W:World)(lo hi:Nat)(p:RP):Prop:=W.ownsRow lo 62 2 p.2 p.1.near.length (flat nrE p.1.near)/\∀ k,p.2.ownBlock=some k->k<hi
def ZeH (p q:RP):Prop:=∀ k,p.2.ownBlock=some k->q.2.ownBlock≠some k
structure RecsOwn (W:World) (lo hi:Nat) (v:Value) (ps:List RP):Prop where
 row:W.ownsRow lo 37 8 v ps.length (flat encP ps)
 top:∀ k,v.ownBlock=some k->k<hi
 nears:∀ p∈ps,ZaF W lo hi p
 apart:ps.Pairwise ZeH
theorem Zal {base size:Nat}{e:TypeId}{n:Nat}{xs:List Value}(h:W.ownsRow base e size v n xs)(hk:∀ k,v.ownBlock=some k->W'.heap[k]? = W.heap[k]?):W'.ownsRow base e size v n xs:=by
 refine⟨h.1,?_⟩;rcases h.2 with h2 | ⟨g,cap,cur,hv,hg,hh,r⟩
 ·exact .inl h2
 ·exact .inr ⟨g,cap,cur,hv,hg,by rw [hk g (by rw [hv];rfl)];exact hh,r⟩
theorem ZaF.keep {p:RP}(h:ZaF W lo hi p)(hk:∀ k,lo<=k->k<hi->k<W.heap.size->W'.heap[k]? = W.heap[k]?):ZaF W' lo hi p:=
 ⟨Zal h.1 (fun k e=>hk k (h.1.lt k e).1 (h.2 k e) (h.1.lt k e).2),h.2⟩
theorem ZaF.wide {lo' hi':Nat}{p:RP}(h:ZaF W lo hi p)(hl:lo'<=lo)(hh:hi<=hi'):ZaF W lo' hi' p:=
 ⟨Zaf h.1 hl,fun k e=>YAB (h.2 k e) hh⟩
theorem ZaF.at {p:RP}(h:ZaF W lo hi p):Zat W p.2 p.1.near hi:=by
 have h1:=Zam h.1;obtain⟨a,cap,hv,h2⟩:=h1;refine⟨a,cap,hv,?_⟩;rcases h2 with h0 | ⟨b,off,ha,hb1,hx⟩
 ·exact .inl h0
 ·exact .inr ⟨b,off,ha,h.2 b (by rw [hv,ha];rfl),hx⟩
theorem RecsOwn.keep {ps:List RP}(h:RecsOwn W lo hi v ps)(hk:∀ k,lo<=k->k<hi->k<W.heap.size->W'.heap[k]? = W.heap[k]?):RecsOwn W' lo hi v ps where
 row:=Zal h.row (fun k e=>hk k (h.row.lt k e).1 (h.top k e) (h.row.lt k e).2)
 top:=h.top
 nears:=fun p hp=>(h.nears p hp).keep hk
 apart:=h.apart
theorem RecsOwn.below {ps:List RP}(h:RecsOwn W lo hi v ps)(hb:Below B W W')(hB:hi<=B):RecsOwn W' lo hi v ps:=h.keep (fun k _ h2 _=>hb.block k (by omega))
theorem RecsOwn.wide {lo' hi':Nat}{ps:List RP}(h:RecsOwn W lo hi v ps)(hl:lo'<=lo)(hh:hi<=hi'):RecsOwn W lo' hi' v ps where
 row:=Zaf h.row hl
 top:=fun k e=>YAB (h.top k e) hh
 nears:=fun p hp=>(h.nears p hp).wide hl hh
 apart:=h.apart
theorem RecsOwn.at {ps:List RP}(h:RecsOwn W lo hi v ps):Zbu W v ps hi:=by
 refine⟨?_,fun p hp=>(h.nears p hp).at⟩;have h1:=Zam h.row;obtain⟨a,cap,hv,h2⟩:=h1;refine⟨a,cap,hv,?_⟩;rcases h2 with h0 | ⟨b,off,ha,hb1,hx⟩
 ·exact .inl h0
 ·exact .inr ⟨b,off,ha,h.top b (by rw [hv,ha];rfl),hx⟩
structure Frame (lo hi:Nat) (w w':World):Prop where
 os:w'.os=w.os
 tape:w'.tape=w.tape
 output:w'.output=w.output
 size:w.heap.size<=w'.heap.size
 block:∀ k,k<w.heap.size->(k<lo\/hi<=k)->w'.heap[k]? = w.heap[k]?
theorem Frame.refl (lo hi:Nat)(w:World):Frame lo hi w w:=⟨rfl,rfl,rfl,YA _,fun _ _ _=>rfl⟩
theorem Frame.trans {a b c:World}(h:Frame lo hi a b)(k:Frame lo hi b c):Frame lo hi a c:=
 ⟨k.os.trans h.os,k.tape.trans h.tape,k.output.trans h.output,YAK h.size k.size,fun i hi hr=>(k.block i (YAB hi h.size) hr).trans (h.block i hi hr)⟩
theorem Frame.grown {a b:World}{row:Option Nat}(g:a.grownBy b row)(hr:∀ k,row=some k->lo<=k/\k<hi):Frame lo hi a b:=
 ⟨g.os,g.tape,g.output,g.size,fun k hk hh=>g.block k hk (fun e=>by have:=hr k e.symm;omega)⟩
theorem Frame.set (w:World)(p j:Nat)(u:Value)(h1:lo<=p)(h2:p<hi):Frame lo hi w (w.setCell ⟨p,j,none⟩ u):=Frame.grown (Zaw w p j u) (fun k e=>by simp at e;omega)
theorem Frame.below {w w':World}(h:Frame lo hi w w')(hw:lo<=w.heap.size):Below lo w w':=(YAC _ _).trans ⟨h.os,h.tape,h.output,h.size,fun k hk=>h.block k (by omega) (.inl hk)⟩
theorem RecsOwn.frame {l2 h2:Nat}{ps:List RP}(h:RecsOwn W lo hi v ps)(hb:Frame l2 h2 W W')(hB:hi<=l2\/h2<=lo):RecsOwn W' lo hi v ps:=h.keep (fun k h1 h2 h3=>hb.block k h3 (by omega))
abbrev putP (W:World) (g o:Nat) (p:RP):World:=(((((((W.setCell ⟨g,o,none⟩ (.int .i64 p.1.area)).setCell ⟨g,o+1,none⟩ (.int .i64 p.1.kind)).setCell ⟨g,o+2,none⟩ (.int .i64 p.1.owner)).setCell ⟨g,o+3,none⟩ (.int .i64 p.1.key)).setCell ⟨g,o+4,none⟩ (.int .i64 p.1.seq)).setCell ⟨g,o+5,none⟩ p.2).setCell ⟨g,o+6,none⟩ (.int .i64 p.1.cost)).setCell ⟨g,o+7,none⟩ (.bool p.1.far)
theorem ZeD (W:World)(g o:Nat)(p:RP):W.grownBy (putP W g o p) (some g):=
 Zai (Zai (Zai (Zai (Zai (Zai (Zai (Zaw W g _ _) (Zaw _ g _ _)) (Zaw _ g _ _)) (Zaw _ g _ _)) (Zaw _ g _ _)) (Zaw _ g _ _)) (Zaw _ g _ _)) (Zaw _ g _ _)
theorem Zpm {base g cap n j:Nat}{xs:List RP}{p:RP}(h:W.ownsRow base 37 8 (.slice (some ⟨g,0,none⟩) n cap) n (flat encP xs))(hj:j<xs.length):
  (putP W g (j*8) p).ownsRow base 37 8 (.slice (some ⟨g,0,none⟩) n cap) n (flat encP (xs.set j p)):=by
 have e:(((((((((flat encP xs).set (j*8) (.int .i64 p.1.area)).set (j*8+1) (.int .i64 p.1.kind)).set (j*8+2) (.int .i64 p.1.owner)).set (j*8+3) (.int .i64 p.1.key)).set (j*8+4) (.int .i64 p.1.seq)).set (j*8+5) p.2).set (j*8+6) (.int .i64 p.1.cost)).set (j*8+7) (.bool p.1.far))=flat encP (xs.set j p):=Zi4 Zay xs j p hj;rw [<-e];exact ((((((((h.stored (j*8) _).1.stored (j*8+1) _).1.stored (j*8+2) _).1.stored (j*8+3) _).1.stored (j*8+4) _).1.stored (j*8+5) _).1.stored (j*8+6) _).1.stored (j*8+7) _).1
theorem Zn0 {ps:List RP}{p:RP}(h:ps.Pairwise ZeH)(hn:∀ q∈ps,ZaF W lo hi q)(hp:∀ k,p.2.ownBlock=some k->hi<=k):(ps++[p]).Pairwise ZeH:=by
 rw [YAM];refine⟨h,by simp,?_⟩;intro a ha b hb;have:b=p:=by simpa using hb
 subst this;intro k hk he;have h1:=(hn a ha).2 k hk;have h2:=hp k he;omega
def tot (ps:List RP):Nat:=(ps.map (fun p=>1+p.1.near.length)).sum
theorem ZcE (p:RP)(ps:List RP):tot (p::ps)=1+p.1.near.length+tot ps:=by simp [tot]
theorem ZdJ (a b:List RP):tot (a++b)=tot a+tot b:=by simp [tot]
theorem Zbj (ps:List RP):ps.length<=tot ps:=by
 induction ps with
 | nil=>simp [tot]
 | cons p ps ih=>rw [ZcE,YAk];omega
theorem Zem {ps:List RP}{p:RP}(h:p∈ps):p.1.near.length<=tot ps:=by
 induction ps with
 | nil=>simp at h
 | cons q ps ih=>
  rw [ZcE];rcases YAb.1 h with rfl | h1
  ·omega
  ·have:=ih h1;omega
theorem Zsl {ps qs:List RP}(h:ps.map (·.1)=qs.map (·.1)):tot ps=tot qs:=by
 have e:∀ l:List RP,tot l=((l.map (·.1)).map (fun x=>1+x.near.length)).sum:=fun l=>by simp [tot,List.map_map,Function.comp_def]
 rw [e,e,h]
theorem map_take {ps:List RP}{p:RP}(h:ps[k]? = some p):(ps.take (k+1)).map (·.1)=(ps.take k).map (·.1)++[p.1]:=by
 obtain⟨hk,e⟩:=YAD.1 h;rw [YAI hk,YAf,e];rfl
def keyC (x:RecD):Array Value:=#[.int .i64 x.area,.int .i64 x.kind,.int .i64 x.owner,.int .i64 x.key]
theorem ZoQ (v1:Value)(x:RecD)(w:World):Calls Tryz.prog 133 #[.agg (recC x v1)] w fun e w'=>e=.returned (.agg (keyC x))/\Below w.heap.size w w':=by
 obtain⟨a0,a1,a2,a3,a4,ns,a6,a7⟩:=x;unfold recC keyC;simp only []
 go_enter Tryz.func133,Tryz.ntmps133
 go_wp2
 go_returns
 exact⟨rfl,ZaB _ _⟩
theorem Zkk (a0 a1 a2 a3 a4:Int)(v:Value)(a6:Int)(a7:Bool)(w:World):Calls Tryz.prog 133 #[.agg #[.int .i64 a0,.int .i64 a1,.int .i64 a2,.int .i64 a3,.int .i64 a4,v,.int .i64 a6,.bool a7]] w fun e w'=>e=.returned (.agg #[.int .i64 a0,.int .i64 a1,.int .i64 a2,.int .i64 a3])/\Below w.heap.size w w':=
 ZoQ v ⟨a0,a1,a2,a3,a4,[],a6,a7⟩ w
theorem Tryz.info3k :(Tryz.prog.info? 3).map (fun i=>(i.zero,i.size,i.bytes))=some (some (.int .i64 0),1,8):=by kernel_rfl
theorem ZrX (w:World)(a b c d a' b' c' d':Int):(binOp .eql 149 (.agg #[.int .i64 a,.int .i64 b,.int .i64 c,.int .i64 d]) (.agg #[.int .i64 a',.int .i64 b',.int .i64 c',.int .i64 d'])).run Tryz.prog w=.ok (.bool (a==a'&&b==b'&&c==c'&&d==d')) w:=by
 obtain⟨i0,hi,_⟩:=info_parts Tryz.info3k;have hu:Tryz.prog.underlying 149=some (.array 4 3):=by kernel_rfl
 have u3:Tryz.prog.underlying 3=some (.int .i64):=by kernel_rfl
 have hc:Tryz.prog.cellsOf 3=1:=by kernel_rfl
 have hp:Tryz.prog.plainKey 3=true:=by kernel_rfl
 have pt:∀ (xs:Array Value) (off:Nat) (u:Value),xs[off]? = some u->(Go.part 3 xs off).run Tryz.prog w=.ok u w:=fun xs off u h=>run_part_plain w hp h;have eqi:∀ (n:Nat) (x y:Int),(Op.equalIn (n+1) 3 (.int .i64 x) (.int .i64 y)).run Tryz.prog w=.ok (x==y) w:=fun n x y=>run_equalIn_int w n 3 .i64 .i64 x y u3;go_simp;have e1:(Op.equalIn 10000 149 (.agg #[.int .i64 a,.int .i64 b,.int .i64 c,.int .i64 d]) (.agg #[.int .i64 a',.int .i64 b',.int .i64 c',.int .i64 d'])).run Tryz.prog w=.ok (a==a'&&b==b'&&c==c'&&d==d') w:=by
  rw [run_equalIn_array w 9999 _ _ hu hi,hc];show (Op.eqItems 9999 3 1 _ _ [0,1,2,3]).run Tryz.prog w=_;simp only [Op.eqItems,Sem.run_bind];rw [pt _ _ (.int .i64 a) rfl];simp only [Result.andThen_ok];rw [pt _ _ (.int .i64 a') rfl];simp only [Result.andThen_ok];rw [eqi 9998 a a'];simp only [Result.andThen_ok];cases a==a'
  ·rfl
  simp only [Bool.not_true,Bool.false_eq_true,if_false,Sem.run_bind,Bool.true_and];rw [pt _ _ (.int .i64 b) rfl];simp only [Result.andThen_ok];rw [pt _ _ (.int .i64 b') rfl];simp only [Result.andThen_ok];rw [eqi 9998 b b'];simp only [Result.andThen_ok];cases b==b'
  ·rfl
  simp only [Bool.not_true,Bool.false_eq_true,if_false,Sem.run_bind,Bool.true_and];rw [pt _ _ (.int .i64 c) rfl];simp only [Result.andThen_ok];rw [pt _ _ (.int .i64 c') rfl];simp only [Result.andThen_ok];rw [eqi 9998 c c'];simp only [Result.andThen_ok];cases c==c'
  ·rfl
  simp only [Bool.not_true,Bool.false_eq_true,if_false,Sem.run_bind,Bool.true_and];rw [pt _ _ (.int .i64 d) rfl];simp only [Result.andThen_ok];rw [pt _ _ (.int .i64 d') rfl];simp only [Result.andThen_ok];rw [eqi 9998 d d'];simp only [Result.andThen_ok];cases d==d'
  ·rfl
  ·rfl
 rw [e1];rfl
theorem Zki (v1 v2:Value)(x y:RecD)(w:World):Calls Tryz.prog 102 #[.agg (recC x v1),.agg (recC y v2)] w fun e w'=>e=.returned (.bool (Zap x y))/\Below w.heap.size w w':=by
 have HK:=hide Zkk;have e0:=fun W=>ZrX W x.area x.kind x.owner x.key y.area y.kind y.owner y.key;obtain⟨q,hq⟩:∃ q,q=Zap x y:=⟨_,rfl⟩;rw [<-hq];have hq2:(x.area==y.area&&x.kind==y.kind&&x.owner==y.owner&&x.key==y.key)=q:=by rw [hq];rfl
 rw [hq2] at e0;clear hq hq2;unfold recC at *
 go_enter Tryz.func102,Tryz.ntmps102
 go_wp2;obtain⟨w1,hw1⟩:∃ w1,w1=(w.alloc (.cells #[.int .i64 x.area,.int .i64 x.kind,.int .i64 x.owner,.int .i64 x.key,.int .i64 x.seq,v1,.int .i64 x.cost,.bool x.far] 37)).alloc (.cells #[.int .i64 y.area,.int .i64 y.kind,.int .i64 y.owner,.int .i64 y.key,.int .i64 y.seq,v2,.int .i64 y.cost,.bool y.far] 37):=⟨_,rfl⟩;have B1:Below w.heap.size w w1:=by rw [hw1];exact ZaB _ _
 have p0:w1.heap[w.heap.size]? = some (.cells #[.int .i64 x.area,.int .i64 x.kind,.int .i64 x.owner,.int .i64 x.key,.int .i64 x.seq,v1,.int .i64 x.cost,.bool x.far] 37):=by rw [hw1,YAH _ _ _ (by simp),YAE]
 have q0:w1.heap[w.heap.size+1]? = some (.cells #[.int .i64 y.area,.int .i64 y.kind,.int .i64 y.owner,.int .i64 y.key,.int .i64 y.seq,v2,.int .i64 y.cost,.bool y.far] 37):=by
  rw [hw1];have:=YAE (w.alloc (.cells #[.int .i64 x.area,.int .i64 x.kind,.int .i64 x.owner,.int .i64 x.key,.int .i64 x.seq,v1,.int .i64 x.cost,.bool x.far] 37)) (.cells #[.int .i64 y.area,.int .i64 y.kind,.int .i64 y.owner,.int .i64 y.key,.int .i64 y.seq,v2,.int .i64 y.cost,.bool y.far] 37);simpa using this
 rw [<-hw1];clear hw1;have s0:=Zaa p0 0;have s1:=Zaa p0 1;have s2:=Zaa p0 2;have s3:=Zaa p0 3;have s4:=Zaa p0 4;have s5:=Zaa p0 5;have s6:=Zaa p0 6;have s7:=Zaa p0 7;simp at s0 s1 s2 s3 s4 s5 s6 s7;have t0:=Zaa q0 0;have t1:=Zaa q0 1;have t2:=Zaa q0 2;have t3:=Zaa q0 3;have t4:=Zaa q0 4;have t5:=Zaa q0 5;have t6:=Zaa q0 6;have t7:=Zaa q0 7;simp at t0 t1 t2 t3 t4 t5 t6 t7;have hz0:=Zab p0;have hz1:=Zab q0;clear p0 q0;have hz2:=B1.size
 go_region_held3 (fun W=>W.cell? ⟨w.heap.size,0,none⟩=some (.int .i64 x.area)/\W.cell? ⟨w.heap.size,1,none⟩=some (.int .i64 x.kind)/\W.cell? ⟨w.heap.size,2,none⟩=some (.int .i64 x.owner)/\W.cell? ⟨w.heap.size,3,none⟩=some (.int .i64 x.key)/\W.cell? ⟨w.heap.size,4,none⟩=some (.int .i64 x.seq)/\W.cell? ⟨w.heap.size,5,none⟩=some (v1)/\W.cell? ⟨w.heap.size,6,none⟩=some (.int .i64 x.cost)/\W.cell? ⟨w.heap.size,7,none⟩=some (.bool x.far)/\W.cell? ⟨w.heap.size+1,0,none⟩=some (.int .i64 y.area)/\W.cell? ⟨w.heap.size+1,1,none⟩=some (.int .i64 y.kind)/\W.cell? ⟨w.heap.size+1,2,none⟩=some (.int .i64 y.owner)/\W.cell? ⟨w.heap.size+1,3,none⟩=some (.int .i64 y.key)/\W.cell? ⟨w.heap.size+1,4,none⟩=some (.int .i64 y.seq)/\W.cell? ⟨w.heap.size+1,5,none⟩=some (v2)/\W.cell? ⟨w.heap.size+1,6,none⟩=some (.int .i64 y.cost)/\W.cell? ⟨w.heap.size+1,7,none⟩=some (.bool y.far)) (first | go_keep | (refine ⟨?_,?_,?_,?_,?_,?_,?_,?_,?_,?_,?_,?_,?_,?_,?_,?_⟩ <;> (rw [b3.cell (YAB (by assumption) b2.size),b2.cell (by assumption)];assumption)) | (refine ⟨?_,?_,?_,?_,?_,?_,?_,?_,?_,?_,?_,?_,?_,?_,?_,?_⟩ <;> (rw [b2.cell (by assumption)];assumption))) (first | (go_at_call 133;have hb2:=b2;refine (HK.out _ _ _ _ _ _ _ _ _).mono ?_;rintro e w3 ⟨rfl,b3⟩) | (go_at_call 133;refine (HK.out _ _ _ _ _ _ _ _ _).mono ?_;rintro e w2 ⟨rfl,b2⟩))
 have B2:Below w.heap.size w w2:=B1.drew.trans (b2.mono B1.size);have B3:Below w.heap.size w w3:=B2.trans (b3.mono B2.size);go_wp2;go_ret;exact⟨rfl,B3⟩
def Zf6 (p l:Nr):Int:=cmpN p.to l.to
theorem ZrF (ls:List Nr):ascB Zf6 ls=ascB ordN ls:=by
 unfold ascB;congr 1;funext k;cases k with
 | zero=>rfl
 | succ k=>
  simp only [Zce]
  split
  ·rename_i p l _ _
   have h:(Zf6 p l<0)↔(ordN p l<0):=by
    unfold Zf6 ordN;rw [ZdO];omega
   exact decide_eq_decide.2 h
  ·rfl
theorem Zjo (l m:Nr)(w:World):Calls Tryz.prog 195 #[nrV l,nrV m] w fun e w'=>e=.returned (.int .i64 (Zf6 l m))/\Below w.heap.size w w':=by
 obtain⟨a,b⟩:=l;obtain⟨a',b'⟩:=m;unfold nrV Zf6;simp only [];have H:=hide (Zbi a a')
 go_enter Tryz.func195,Tryz.ntmps195
 go_wp2_with fail
 refine (H.out _).mono ?_;rintro e w1 ⟨rfl,rfl⟩;go_wp2;go_ret;exact⟨rfl,ZaB _ _⟩
theorem ZkX (v:Value)(ls:List Nr)(w:World)(hls:ls.length<=1048576)(hv:Zat w v ls w.heap.size):
  Calls Tryz.prog 194 #[v,.func (.func 195) #[] #[]] w fun e w'=>e=.returned (.bool (ascB Zf6 ls))/\Below w.heap.size w w':=by
 obtain⟨a,cap,rfl⟩:=hv.shape;have HV:=hide hv;clear hv
 go_enter Tryz.func194,Tryz.ntmps194
 go_wp2
 go_loopw [5] (fun i wr=>∃ k:Nat,1<=k/\(k<=ls.length\/k=1)/\i=.int .i64 k/\(∀ j,j<k->Zce Zf6 ls j=true)/\Below w.heap.size w wr) (fun i _=>ls.length+1-(intOf i).toNat)
 case atStart=>exact ⟨1,by omega,by omega,rfl,fun j hj=>by (obtain rfl:j=0:=by omega);rfl,YAC _ _⟩
 case round=>
  obtain⟨k,hk1,hk,rfl,hno,hb⟩:=hrel;have HNO:=hide hno;clear hno;by_cases hlt:k<ls.length
  ·obtain ⟨l,hl⟩:∃ l,ls[k]? = some l:=⟨ls[k],YAA hlt⟩;obtain⟨j,hj⟩:∃ j,k=j+1:=⟨k-1,by omega⟩;obtain⟨p,hp⟩:∃ p,ls[j]? = some p:=⟨ls[j],YAA (by omega)⟩;obtain⟨b,off,cap',hve,hbb,c0,c1⟩:=HV.out.cells k l hl;cases hve;obtain⟨b',off',cap2,hve2,hbb2,d0,d1⟩:=HV.out.cells j p hp;cases hve2;replace c0:=(hb.cell hbb).trans c0;replace c1:=(hb.cell hbb).trans c1;replace d0:=(hb.cell hbb).trans d0;replace d1:=(hb.cell hbb).trans d1;have hat:Zce Zf6 ls k=decide (Zf6 p l<0):=by rw [hj];exact ZbX hp (by rw [<-hj];exact hl)
   have hzr:=hb.size;have hbr:b<wr.heap.size:=by omega
   have hki:(0:Int)<=(k:Int):=by omega
   have hkj:(k:Int)<(ls.length:Int):=by omega
   have hj1:(k:Int)-1=(j:Int):=by omega
   have hj2:(0:Int)<=(j:Int):=by omega
   have hj3:(j:Int)<(ls.length:Int):=by omega
   have hj5:IntKind.i64.wrap (j:Int)=(j:Int):=ZaH _ (by omega) (by omega);have HORD:=hide (Zjo p l);have HAT:=hide hat;have HJ:=hide hj;clear hl hp hat hj;obtain⟨x,hx⟩:∃ x,x=Zf6 p l:=⟨_,rfl⟩;rw [<-hx] at HORD HAT;clear hx;unfold nrV at HORD;by_cases hx0:x<0
   ·have hx1:¬(0:Int)<=x:=by omega
    rw [YAT hx0] at HAT;go_wp2
    go_region_held3 (fun W=>W.cell? ⟨b,off+k*2,none⟩=some (.int .i64 l.to)/\W.cell? ⟨b,off+k*2+1,none⟩=some (.int .i64 l.c)/\W.cell? ⟨b,off+j*2,none⟩=some (.int .i64 p.to)/\W.cell? ⟨b,off+j*2+1,none⟩=some (.int .i64 p.c)) (first | go_keep | (refine ⟨?_,?_,?_,?_⟩ <;> (rw [hbc.cell (by assumption)];assumption))) (first | (go_at_call 195;refine (HORD.out _).mono ?_;rintro e w2 ⟨rfl,hbc⟩))
    go_wp2;exact⟨⟨k+1,by omega,by omega,by go_num,ZaO HNO.out HAT.out,hb.drew.trans (hbc.mono hb.size)⟩,by simp [intOf];omega⟩
   ·have hx1:(0:Int)<=x:=by omega
    rw [YAe hx0] at HAT;have hf:ascB Zf6 ls=false:=ZaQ hlt HAT.out;have HF:=hide hf;clear hf;go_wp2
    go_region_held3 (fun W=>W.cell? ⟨b,off+k*2,none⟩=some (.int .i64 l.to)/\W.cell? ⟨b,off+k*2+1,none⟩=some (.int .i64 l.c)/\W.cell? ⟨b,off+j*2,none⟩=some (.int .i64 p.to)/\W.cell? ⟨b,off+j*2+1,none⟩=some (.int .i64 p.c)) (first | go_keep | (refine ⟨?_,?_,?_,?_⟩ <;> (rw [hbc.cell (by assumption)];assumption))) (first | (go_at_call 195;refine (HORD.out _).mono ?_;rintro e w2 ⟨rfl,hbc⟩))
    go_wp2;go_ret;exact⟨Zah HF.out,hb.drew.trans (hbc.mono hb.size)⟩
  ·have hall:ascB Zf6 ls=true:=Za4 fun i hi=>HNO.out i (by omega);have HA:=hide hall;clear hall;go_wp2;go_ret;exact⟨Zah HA.out,hb⟩
theorem ZoG (o:Int)(v:Value)(ls:List Nr)(w:World)(hls:ls.length<=1048576)(hv:Zat w v ls w.heap.size):
  Calls Tryz.prog 178 #[.int .i64 o,v] w fun e w'=>e=.returned (.bool (Zbn o ls))/\Below w.heap.size w w':=by
 obtain⟨a,cap,rfl⟩:=hv.shape;have HV:=hide hv;clear hv
 go_enter Tryz.func178,Tryz.ntmps178
 go_wp2
 go_loopw [9] (fun i wr=>∃ k:Nat,k<=ls.length/\i=.int .i64 k/\(∀ j,j<k->okAt (Zcu o) ls j=true)/\Below w.heap.size w wr) (fun i _=>ls.length-(intOf i).toNat)
 case atStart=>exact ⟨0,by omega,rfl,by omega,YAC _ _⟩
 case round=>
  obtain⟨k,hk,rfl,hno,hb⟩:=hrel;have HNO:=hide hno;clear hno;by_cases hlt:k<ls.length
  ·obtain ⟨l,hl⟩:∃ l,ls[k]? = some l:=⟨ls[k],YAA hlt⟩;obtain⟨b,off,cap',hve,hbb,c0,c1⟩:=HV.out.cells k l hl;cases hve;replace c0:=(hb.cell hbb).trans c0;replace c1:=(hb.cell hbb).trans c1;have hki:(0:Int)<=(k:Int):=by omega
   have hkj:(k:Int)<(ls.length:Int):=by omega
   have HAT:=hide (Zck (ok:=Zcu o) hl);obtain⟨lt,lc⟩:=l;simp only [Zcu] at HAT c0 c1;obtain⟨q1,hq1⟩:∃ q,q=inB lt 1 6:=⟨_,rfl⟩;obtain⟨q3,hq3⟩:∃ q,q=inB lc 1 1000:=⟨_,rfl⟩;have H1:=hide (Za5 lt 1 6);have H3:=hide (Za5 lc 1 1000);rw [<-hq1] at H1 HAT;rw [<-hq3] at H3 HAT;clear hl hq1 hq3;have hzr:=hb.size;have B2:Below w.heap.size w (wr.alloc (.cells #[.int .i64 lt,.int .i64 lc] 62)):=hb.alloc hb.size _
   go_wp2_with fail
   refine (H1.out _).mono ?_;rintro e w2 ⟨rfl,rfl⟩;cases q1
   ·have hf:Zbn o ls=false:=by unfold Zbn ZbM;rw [ZaQ hlt HAT.out];rfl
    have HF:=hide hf;clear hf;go_wp2;go_ret;exact⟨Zah HF.out,B2⟩
   by_cases hlo:lt=o
   ·have hd:(lt==o)=true:=by simpa using hlo
    have hf:Zbn o ls=false:=by
     have:=HAT.out;rw [hd] at this;unfold Zbn ZbM;rw [ZaQ hlt this];rfl
    have HF:=hide hf;clear hf hlo HAT;go_wp2;go_ret;exact⟨Zah HF.out,B2⟩
   have hd:(lt==o)=false:=by simpa using hlo
   rw [hd] at HAT;clear hlo
   go_wp2_with fail
   refine (H3.out _).mono ?_;rintro e w2 ⟨rfl,rfl⟩;cases q3
   ·have hf:Zbn o ls=false:=by unfold Zbn ZbM;rw [ZaQ hlt HAT.out];rfl
    have HF:=hide hf;clear hf;go_wp2;go_ret;exact⟨Zah HF.out,B2⟩
   ·go_wp2;exact⟨⟨k+1,by omega,by go_num,ZaO HNO.out HAT.out,B2⟩,by simp [intOf];omega⟩
  ·have hall:ZbM (Zcu o) ls=true:=Za4 fun i hi=>HNO.out i (by omega);have hF:Zbn o ls=ascB Zf6 ls:=by unfold Zbn;rw [hall,ZrF];rfl
   have HF:=hide hF;clear hF hall;have HVR:=hide (HV.out.then hb)
   go_wp2_with fail
   refine (ZkX _ ls _ hls HVR.out).mono ?_;rintro e w2 ⟨rfl,hbc⟩;go_wp2;go_ret;exact⟨Zah HF.out,hb.trans (hbc.mono hb.size)⟩
def ZaW (x:RecD):Bool:=inB x.owner 1 6&&inB x.seq 1 100000 &&
 (if x.kind=1 then inB x.area 0 2&&x.key==0&&Zbn x.owner x.near&&x.cost==0 && !x.far
  else if x.kind=2 then inB x.area 0 2&&inB x.key 1 6&&x.near.length==0&&inB x.cost 0 60000 && !x.far
  else if x.kind=3 then x.area==9&&inB x.key 1 9&&x.near.length==0&&(inB x.cost 1 1000||x.cost==60000)
  else false)
theorem ZnK (v1:Value)(x:RecD)(w:World)(hl:x.near.length<=1048576)(hv:Zat w v1 x.near w.heap.size):
  Calls Tryz.prog 36 #[.agg (recC x v1)] w fun e w'=>e=.returned (.bool (ZaW x))/\Below w.heap.size w w':=by
 obtain⟨p1,c1,rfl⟩:=hv.shape;have HN:=hide (fun W (h:Below w.heap.size w W)=>Zpy (.slice p1 x.near.length c1) x W hl (hv.then h));obtain⟨R,hR⟩:∃ R,R=ZaW x:=⟨_,rfl⟩;rw [<-hR];obtain⟨qn,hqn⟩:∃ q,q=Zbn x.owner x.near:=⟨_,rfl⟩;rw [<-hqn] at HN;unfold ZaW at hR;rw [<-hqn] at hR;obtain⟨area,kind,owner,key,seq,ns,cost,far⟩:=x;unfold recC at HN |-;simp only [] at HN hR hl hv |-
 have hnew:=YAE w (.cells #[.int .i64 area,.int .i64 kind,.int .i64 owner,.int .i64 key,.int .i64 seq,.slice p1 ns.length c1,.int .i64 cost,.bool far] 37);have B0:Below w.heap.size w (w.alloc (.cells #[.int .i64 area,.int .i64 kind,.int .i64 owner,.int .i64 key,.int .i64 seq,.slice p1 ns.length c1,.int .i64 cost,.bool far] 37)):=(YAC _ _).alloc (YA _) _;have H1:=hide (ZbU owner 1 6);have H2:=hide (ZbU seq 1 100000);obtain⟨q1,hq1⟩:∃ q,q=inB owner 1 6:=⟨_,rfl⟩;obtain⟨q2,hq2⟩:∃ q,q=inB seq 1 100000:=⟨_,rfl⟩;rw [<-hq1] at H1 hR;rw [<-hq2] at H2 hR;have NEW:=hide hnew;have HR:=hide hR;have HL:=hide hl;clear hnew hR hq1 hq2 hqn hv hl
 go_enter Tryz.func36,Tryz.ntmps36
 go_wp2_with fail
 refine (H1.out _).mono ?_;rintro e w1 ⟨rfl,rfl⟩;cases q1
 ·go_wp2;go_ret;exact⟨Zah (by rw [HR.out];rfl),B0⟩
 go_wp2_with fail
 refine (H2.out _).mono ?_;rintro e w1 ⟨rfl,rfl⟩;cases q2
 ·go_wp2;go_ret;exact⟨Zah (by rw [HR.out];rfl),B0⟩
 clear H1 H2;by_cases hk1:kind=1
 ·subst hk1;have HR2:=hide (show R=(inB area 0 2&&key==0&&qn&&cost==0 && !far) by have:=HR.out;simpa using this);have H3:=hide (ZbU area 0 2);obtain⟨q3,hq3⟩:∃ q,q=inB area 0 2:=⟨_,rfl⟩;rw [<-hq3] at H3 HR2;clear hq3 HR
  go_wp2_with fail
  refine (H3.out _).mono ?_;rintro e w1 ⟨rfl,rfl⟩;cases q3
  ·go_wp2;go_ret;exact⟨Zah (by rw [HR2.out];rfl),B0⟩
  by_cases hkey:key=0
  case neg=>
   have hd:(key==0)=false:=by simpa using hkey
   rw [hd] at HR2;go_wp2;go_ret;exact⟨Zah (by rw [HR2.out];rfl),B0⟩
  subst hkey
  go_wp2_with fail
  refine (HN.out _ B0).mono ?_;rintro e w2 ⟨rfl,b2⟩;have hx2:w2.heap[w.heap.size]? = some (.cells #[.int .i64 area,.int .i64 1,.int .i64 owner,.int .i64 0,.int .i64 seq,.slice p1 ns.length c1,.int .i64 cost,.bool far] 37):=by rw [b2.block _ (by simp)];exact NEW.out
  have f6:=Zaa hx2 6;have f7:=Zaa hx2 7;simp at f6 f7;have B2:=B0.trans (b2.mono B0.size);clear hx2 b2 NEW B0;cases qn
  ·go_wp2;go_ret;exact⟨Zah (by rw [HR2.out];rfl),B2⟩
  by_cases hco:cost=0
  case neg=>
   have hd:(cost==0)=false:=by simpa using hco
   rw [hd] at HR2;go_wp2;go_ret;exact⟨Zah (by rw [HR2.out];rfl),B2⟩
  subst hco;cases far
  ·go_wp2;go_ret;exact⟨Zah (by rw [HR2.out];rfl),B2⟩
  ·go_wp2;go_ret;exact⟨Zah (by rw [HR2.out];rfl),B2⟩
 have k1:(kind==1)=false:=by simpa using hk1
 by_cases hk2:kind=2
 ·subst hk2;have HR2:=hide (show R=(inB area 0 2&&inB key 1 6&&ns.length==0&&inB cost 0 60000 && !far) by have:=HR.out;simpa using this);have H3:=hide (ZbU area 0 2);obtain⟨q3,hq3⟩:∃ q,q=inB area 0 2:=⟨_,rfl⟩;rw [<-hq3] at H3 HR2;have H4:=hide (ZbU key 1 6);obtain⟨q4,hq4⟩:∃ q,q=inB key 1 6:=⟨_,rfl⟩;rw [<-hq4] at H4 HR2;have H5:=hide (ZbU cost 0 60000);obtain⟨q5,hq5⟩:∃ q,q=inB cost 0 60000:=⟨_,rfl⟩;rw [<-hq5] at H5 HR2;clear hq3 hq4 hq5 HR hk1 k1
  go_wp2_with fail
  refine (H3.out _).mono ?_;rintro e w1 ⟨rfl,rfl⟩;cases q3
  ·go_wp2;go_ret;exact⟨Zah (by rw [HR2.out];rfl),B0⟩
  go_wp2_with fail
  refine (H4.out _).mono ?_;rintro e w1 ⟨rfl,rfl⟩;cases q4
  ·go_wp2;go_ret;exact⟨Zah (by rw [HR2.out];rfl),B0⟩
  by_cases hn0:ns.length=0
  case neg=>
   have hd:((ns.length:Int)==0)=false:=by simp;intro h;rw [h] at hn0;exact hn0 rfl
   have hR2:R=false:=by rw [HR2.out,show (ns.length==0)=false by simpa using hn0];rfl
   have HR3:=hide hR2;clear hR2 hn0 HR2;go_wp2;go_ret;exact⟨Zah HR3.out,B0⟩
  have hd:((ns.length:Int)==0)=true:=by simp;exact List.length_eq_zero_iff.1 hn0
  have HR3:=hide (show R=(q5 && !far) by have:=HR2.out;rw [show (ns.length==0)=true by simpa using hn0] at this;simpa using this);clear hn0 HR2
  go_wp2_with fail
  refine (H5.out _).mono ?_;rintro e w1 ⟨rfl,rfl⟩;cases q5
  ·go_wp2;go_ret;exact⟨Zah (by rw [HR3.out];rfl),B0⟩
  cases far
  ·go_wp2;go_ret;exact⟨Zah (by rw [HR3.out];rfl),B0⟩
  ·go_wp2;go_ret;exact⟨Zah (by rw [HR3.out];rfl),B0⟩
 have k2:(kind==2)=false:=by simpa using hk2
 by_cases hk3:kind=3
 ·subst hk3;have HR2:=hide (show R=(area==9&&inB key 1 9&&ns.length==0&&(inB cost 1 1000||cost==60000)) by have:=HR.out;simpa using this);have H4:=hide (ZbU key 1 9);obtain⟨q4,hq4⟩:∃ q,q=inB key 1 9:=⟨_,rfl⟩;rw [<-hq4] at H4 HR2;have H5:=hide (ZbU cost 1 1000);obtain⟨q5,hq5⟩:∃ q,q=inB cost 1 1000:=⟨_,rfl⟩;rw [<-hq5] at H5 HR2;clear hq4 hq5 HR hk1 k1 hk2 k2;by_cases ha:area=9
  case neg=>
   have hd:(area==9)=false:=by simpa using ha
   rw [hd] at HR2;go_wp2;go_ret;exact⟨Zah (by rw [HR2.out];rfl),B0⟩
  subst ha
  go_wp2_with fail
  refine (H4.out _).mono ?_;rintro e w1 ⟨rfl,rfl⟩;cases q4
  ·go_wp2;go_ret;exact⟨Zah (by rw [HR2.out];rfl),B0⟩
  by_cases hn0:ns.length=0
  case neg=>
   have hd:((ns.length:Int)==0)=false:=by simp;intro h;rw [h] at hn0;exact hn0 rfl
   have hR2:R=false:=by rw [HR2.out,show (ns.length==0)=false by simpa using hn0];rfl
   have HR3:=hide hR2;clear hR2 hn0 HR2;go_wp2;go_ret;exact⟨Zah HR3.out,B0⟩
  have hd:((ns.length:Int)==0)=true:=by simp;exact List.length_eq_zero_iff.1 hn0
  have HR3:=hide (show R=(q5||cost==60000) by have:=HR2.out;rw [show (ns.length==0)=true by simpa using hn0] at this;simpa using this);clear hn0 HR2
  go_wp2_with fail
  refine (H5.out _).mono ?_;rintro e w1 ⟨rfl,rfl⟩;cases q5
  ·go_wp2;go_ret;exact⟨Zah (by rw [HR3.out];rfl),B0⟩
  ·go_wp2;go_ret;exact⟨Zah (by rw [HR3.out];rfl),B0⟩
 have k3:(kind==3)=false:=by simpa using hk3
 have hR2:R=false:=by rw [HR.out,if_neg hk1,if_neg hk2,if_neg hk3];rfl
 have HR2:=hide hR2;clear hR2 HR hk1 hk2 hk3;go_wp2;go_ret;exact⟨Zah HR2.out,B0⟩
def ZdD (f t r:Int)(p:Lk × Bool):Bool:=p.2&&ZbD f t r p.1
def Zcw (ls:List Lk)(bs:List Bool)(f t r:Int):Int:=(((ls.zip bs).find? (ZdD f t r)).map (·.1.c)).getD 0
theorem ZrD {l:Lk}{b:Bool}(h:ls[k]? = some l)(hb:bs[k]? = some b):(ls.zip bs)[k]? = some (l,b):=by
 rw [List.getElem?_zip_eq_some];exact⟨h,hb⟩
theorem ZqK {f t r:Int}{l:Lk}{b:Bool}(h:∀ j,j<k->∀ x,(ls.zip bs)[j]? = some x->ZdD f t r x=false)(hl:(ls.zip bs)[k]? = some (l,b))(hp:ZdD f t r (l,b)=true):Zcw ls bs f t r=l.c:=by
 unfold Zcw;rw [Zf9 _ _ k _ h hl hp];rfl
theorem Zo9 {f t r:Int}(h:∀ j,j<k->∀ x,(ls.zip bs)[j]? = some x->ZdD f t r x=false)(hk:k=ls.length):Zcw ls bs f t r=0:=by
 unfold Zcw;rw [Zh1 _ _ (fun j hj=>h j (by rw [List.length_zip] at hj;omega))];rfl
def NoHit (ls:List Lk)(bs:List Bool)(f t r:Int)(k:Nat):Prop:=∀ j,j<k->∀ x,(ls.zip bs)[j]? = some x->ZdD f t r x=false
theorem ZpA (n:Value)(v tv y:Value)(ls:List Lk)(bs:List Bool)(f t r:Int)(w:World)(hls:ls.length<=1048576)(hbs:bs.length=ls.length)(hv:ZaK w v ls w.heap.size)(hy:Zbh w y bs w.heap.size):
  Calls Tryz.prog 23 #[.agg #[n,v,tv],y,.int .i64 f,.int .i64 t,.int .i64 r] w fun e w'=>e=.returned (.int .i64 (Zcw ls bs f t r))/\Below w.heap.size w w':=by
 obtain⟨a,cap,rfl⟩:∃ a cap,v=.slice a ls.length cap:=by obtain ⟨a,cap,h,_⟩:=hv;exact⟨a,cap,h⟩
 obtain⟨a2,cap2,rfl⟩:=hy.shape;have HV:=hide hv;have HY:=hide hy;have HBS:=hide hbs;clear hv hy hbs
 go_enter Tryz.func23,Tryz.ntmps23
 go_wp2
 go_loopw [11] (fun i wr=>∃ k:Nat,k<=ls.length/\i=.int .i64 k/\NoHit ls bs f t r k/\Below w.heap.size w wr/\wr.heap[w.heap.size]? = some (.cells #[n,.slice a ls.length cap,tv] 27)) (fun i _=>ls.length-(intOf i).toNat)
 case atStart=>exact ⟨0,by omega,rfl,fun j hj=>absurd hj (Nat.not_lt_zero _),(YAC _ _).alloc (YA _) _,YAE w _⟩
 case round=>
  obtain⟨k,hk,rfl,hno,hb,hx⟩:=hrel;have hx1:wr.cell? ⟨w.heap.size,1,none⟩=some (.slice a ls.length cap):=by rw [Zaa hx];rfl
  have HX:=hide hx;have HNO:=hide hno;clear hx hno;by_cases hlt:k<ls.length
  ·obtain ⟨l,hl⟩:∃ l,ls[k]? = some l:=⟨ls[k],YAA hlt⟩;have hltb:k<bs.length:=by have:=HBS.out;omega
   obtain⟨b1,hb1⟩:∃ b,bs[k]? = some b:=⟨bs[k],YAA hltb⟩;obtain⟨b,off,cap',hve,hbb,c0,c1,c2,c3⟩:=HV.out.cells k l hl;cases hve;obtain⟨g,off2,cap2',hve2,hgg,d0⟩:=HY.out.cell k b1 hb1;cases hve2;replace c0:=(hb.cell hbb).trans c0;replace c1:=(hb.cell hbb).trans c1;replace c2:=(hb.cell hbb).trans c2;replace c3:=(hb.cell hbb).trans c3;replace d0:=(hb.cell hgg).trans d0;have HL:=hide (ZrD hl hb1);have hlb:(k:Int)<(bs.length:Int):=by omega
   have hgw:g<wr.heap.size:=by have:=hb.size;omega
   clear hl hb1 hgg;obtain⟨la,lb,lc,lr⟩:=l;cases b1
   all_goals go_wp2
   all_goals first
    | (go_ret
       refine⟨Zff (ZqK HNO.out HL.out ?_).symm,hb.alloc hb.size _⟩;clear HV HX HL HNO hb hx1 c0 c1 c2 c3 d0 HY;simp only [ZdD,ZbD];grind)
    | (refine ⟨⟨k+1,by omega,by go_num,Zlx HNO.out HL.out ?_,hb.alloc hb.size _,?_⟩,by simp [intOf];omega⟩
       ·clear HV HX HL HNO hb hx1 c0 c1 c2 c3 d0 HY;simp only [ZdD,ZbD];grind
       ·rw [YAH _ _ _ (Zab HX.out)];exact HX.out)
    | (subst_vars
       refine⟨⟨k+1,by omega,by go_num,Zlx HNO.out HL.out ?_,hb.alloc hb.size _,?_⟩,by simp [intOf];omega⟩
       ·clear HV HX HL HNO hb hx1 c0 c1 c2 c3 d0 HY;simp only [ZdD,ZbD];grind
       ·rw [YAH _ _ _ (Zab HX.out)];exact HX.out)
  ·have hk':k=ls.length:=by omega
   have HK:=hide hk';clear hk';go_wp2;go_ret;exact⟨Zff (Zo9 HNO.out HK.out).symm,hb⟩
def Zed (ls:List Lk)(v r:Int):List Int:=([1,2,3,4,5,6]:List Int).filter fun u=>decide (0<ZcH ls v u r)
def Zas (ls:List Lk)(v:Int):List Int:=([0,1,2]:List Int).filter fun r=>decide (0<(Zed ls v r).length)
def ZeW (ls:List Lk)(v:Int):Bool:=decide (1<(Zas ls v).length)&&((Zas ls v).head? == some 0)
def ZbB (p:Int->Bool)(s:Int):Nat->List Int
 | 0=>[]
 | k+1=>ZbB p s k++(if p (s+(k:Int)) then [s+(k:Int)] else [])
theorem ZeC (p:Int->Bool)(s:Int):∀ k,(ZbB p s k).length<=k
 | 0=>by simp [ZbB]
 | k+1=>by
  have:=ZeC p s k;simp only [ZbB]
  split <;> simp <;> omega
theorem Zlw (ls:List Lk)(v r:Int):Zed ls v r=ZbB (fun u=>decide (0<ZcH ls v u r)) 1 6:=by
 simp [Zed,ZbB,List.filter_cons]
 repeat' split
 all_goals simp
theorem Zpz (n:Value)(v tv:Value)(ls:List Lk)(f r:Int)(w:World)(hls:ls.length<=1048576)(hv:ZaK w v ls w.heap.size):
  Calls Tryz.prog 57 #[.agg #[n,v,tv],.int .i64 f,.int .i64 r] w fun e w'=>∃ x,e=.returned x/\w'.ownsRow w.heap.size 3 1 x (Zed ls f r).length (Zbb (Zed ls f r))/\Below w.heap.size w w':=by
 have HV:=hide hv;clear hv;rw [Zlw]
 go_enter Tryz.func57,Tryz.ntmps57
 go_wp2
 go_loopw [7,8] (fun x i wr=>∃ k:Nat,k<=6/\i=.int .i64 (1+(k:Int))/\Below w.heap.size w wr/\wr.heap[w.heap.size]? = some (.cells #[n,v,tv] 27)/\wr.ownsRow (w.heap.size+1) 3 1 x (ZbB (fun u=>decide (0<ZcH ls f u r)) 1 k).length (Zbb (ZbB (fun u=>decide (0<ZcH ls f u r)) 1 k))) (fun _ i _=>8-(intOf i).toNat)
 case atStart=>
  refine⟨0,by omega,rfl,ZaB _ _,?_,?_⟩
  ·rw [YAH _ _ _ (show w.heap.size<(w.alloc (.cells #[n,v,tv] 27)).heap.size by simp),YAE]
  ·have h0:=World.ownsRow_lit (base:=w.heap.size+1) (w.alloc (.cells #[n,v,tv] 27)) (#[]:Array Value) 0 (by simp) (by decide) (e:=3) (size:=1) rfl;simpa [ZbB,Zbb] using h0
 case round=>
  obtain⟨k,hk,rfl,hb,hx,hown⟩:=hrel;have c0:wr.cell? ⟨w.heap.size,0,none⟩=some n:=by rw [Zaa hx];rfl
  have c1:wr.cell? ⟨w.heap.size,1,none⟩=some v:=by rw [Zaa hx];rfl
  have c2:wr.cell? ⟨w.heap.size,2,none⟩=some tv:=by rw [Zaa hx];rfl
  have hxl:=Zab hx;have HX:=hide hx;have OW:=hide hown;clear hx hown;by_cases hlt:k<6
  ·go_wp2_with fail
   refine (Zpv n v tv ls f (1+(k:Int)) r wr hls (HV.out.then hb)).mono ?_;rintro e w1 ⟨rfl,b1⟩;have hown1:=Zad OW.out b1 (YA _);have hx1:w1.heap[w.heap.size]? = some (.cells #[n,v,tv] 27):=by rw [b1.block _ hxl];exact HX.out
   have hb1:Below w.heap.size w w1:=hb.trans (b1.mono hb.size);have hz1:=b1.size;have hpl:=ZeC (fun u=>decide (0<ZcH ls f u r)) 1 k;have HX1:=hide hx1;obtain⟨l2,hl20⟩:∃ l2,l2=ZbB (fun u=>decide (0<ZcH ls f u r)) 1 (k+1):=⟨_,rfl⟩;have HL20:=hide hl20;have hps:Hid (l2=ZbB (fun u=>decide (0<ZcH ls f u r)) 1 k++(if decide (0<ZcH ls f (1+(k:Int)) r) then [1+(k:Int)] else [])):=hl20;clear hl20;clear b1 hx1 c0 c1 c2 OW HX;generalize ZbB (fun u=>decide (0<ZcH ls f u r)) 1 k=l at hown1 hpl hps;generalize ZcH ls f (1+(k:Int)) r=c at hps |-;by_cases hc:0<c
   ·have hl2:l2=l++[1+(k:Int)]:=by rw [hps.out];simp [hc]
    have HL2:=hide hl2;clear hl2 hps
    go_wp2_with (first
     | (at_builtin;refine Zbp _ rfl _ _ 40 rfl (w.heap.size+1) 3 Tryz.underlying40 Tryz.info3 u7 l (1+(k:Int)) rfl (hown1.alloc _) ⟨w1.heap.size,0,none⟩ 1 rfl ?_ (by omega) (by simp;omega) ?_))
    ·rw [add_zero',World.cell?_alloc_at _ _ _ _ rfl];rfl
    intro v' w4 l' hl' hown' hgrow;have hb4:Below w.heap.size w w4:=(hb1.alloc (by omega) _).grown hgrow (by simp;omega) (fun k hk=>by have:=(hown1.lt k hk).1;omega);have hx4:w4.heap[w.heap.size]? = some (.cells #[n,v,tv] 27):=by
     rw [hgrow.block _ (by simp;omega) (fun h=>by have:=(hown1.lt _ h.symm).1;omega),YAH _ _ _ (by omega)];exact HX1.out
    have e:l'=l2:=by rw [hl'.out,HL2.out]
    subst e;have OW2:=hide hown';have HX4:=hide hx4;clear hgrow hown' hx4 hown1;go_wp2;go_roundw
    case rel=>exact ⟨k+1,by omega,by go_num,hb4,HX4.out,by rw [<-HL20.out];exact OW2.out⟩
    case measure=>simp [intOf];omega
   ·have hl2:l2=l:=by rw [hps.out];simp [hc]
    subst hl2;have OW2:=hide hown1;clear hown1 hps;go_wp2;go_roundw
    case rel=>exact ⟨k+1,by omega,by go_num,hb1,HX1.out,by rw [<-HL20.out];exact OW2.out⟩
    case measure=>simp [intOf];omega
  ·have hk':k=6:=by omega
   subst hk';go_wp2;go_ret;exact⟨_,rfl,ZfP OW.out (by omega),hb⟩
def lk0:Lk:=⟨0,0,0,0⟩
theorem Tryz.infoLk :(Tryz.prog.info? 78).map (fun i=>(i.zero,i.size,i.bytes))=some (some (lkV lk0),4,32):=by kernel_rfl
def th0:Th:=⟨0,0,0,false⟩
theorem Tryz.infoTh :(Tryz.prog.info? 65).map (fun i=>(i.zero,i.size,i.bytes))=some (some (thV th0),4,32):=by kernel_rfl

theorem Zq9 (x:RecD)(v1 v2:Value)(w:World)(h1:Zat w v1 x.near w.heap.size)(h2:Zat w v2 x.near w.heap.size)(hl:x.near.length<=1048576):
  Calls Tryz.prog 28 #[.agg (recC x v1),.agg (recC x v2)] w fun e w'=>e=.returned (.bool true)/\Below w.heap.size w w':=by
 obtain⟨a1,c1,rfl⟩:=h1.shape;obtain⟨a2,c2,rfl⟩:=h2.shape;have H1:=hide h1;have H2:=hide h2;clear h1 h2;have BX:Below w.heap.size w ((w.alloc (.cells (recC x (.slice a1 x.near.length c1)) 37)).alloc (.cells (recC x (.slice a2 x.near.length c2)) 37)):=ZaB _ _;have hq0:((w.alloc (.cells (recC x (.slice a1 x.near.length c1)) 37)).alloc (.cells (recC x (.slice a2 x.near.length c2)) 37)).heap[w.heap.size]? = some (.cells (recC x (.slice a1 x.near.length c1)) 37):=by rw [YAH _ _ _ (by simp),YAE]
 have hq1:((w.alloc (.cells (recC x (.slice a1 x.near.length c1)) 37)).alloc (.cells (recC x (.slice a2 x.near.length c2)) 37)).heap[w.heap.size+1]? = some (.cells (recC x (.slice a2 x.near.length c2)) 37):=by
  have e:=YAE (w.alloc (.cells (recC x (.slice a1 x.near.length c1)) 37)) (.cells (recC x (.slice a2 x.near.length c2)) 37);simpa using e
 obtain⟨wx,hwx⟩:∃ wx,wx=(w.alloc (.cells (recC x (.slice a1 x.near.length c1)) 37)).alloc (.cells (recC x (.slice a2 x.near.length c2)) 37):=⟨_,rfl⟩;rw [<-hwx] at BX hq0 hq1;have hsx:=Zab hq1;unfold recC at *;have HQ0:=hide hq0;have HQ1:=hide hq1;clear hq0 hq1
 go_enter Tryz.func28,Tryz.ntmps28
 go_wp2;rw [<-hwx];clear hwx
 go_loopw [5] (fun i wr=>∃ k:Nat,k<=x.near.length/\i=.int .i64 k/\Below wx.heap.size wx wr) (fun i _=>x.near.length-(intOf i).toNat)
 case atStart=>exact ⟨0,by omega,rfl,YAC _ _⟩
 case round=>
  obtain⟨k,hk,rfl,hb⟩:=hrel;have hbs:=hb.size;have hr0:=(hb.block _ (Zab HQ0.out)).trans HQ0.out;have hr1:=(hb.block _ (Zab HQ1.out)).trans HQ1.out;have s5:=Zaa hr0 5;have t5:=Zaa hr1 5;simp at s5 t5;have BWR:Below w.heap.size w wr:=BX.trans (hb.mono (by omega));by_cases hlt:k<x.near.length
  ·obtain ⟨n,hn⟩:∃ n,x.near[k]? = some n:=⟨x.near[k],YAA hlt⟩;obtain⟨d1,o1,e1,hv1,hd1,f0,f1⟩:=H1.out.cells k n hn;obtain⟨d2,o2,e2,hv2,hd2,g0,g1⟩:=H2.out.cells k n hn;cases hv1;cases hv2;replace f0:=(BWR.cell hd1).trans f0;replace f1:=(BWR.cell hd1).trans f1;replace g0:=(BWR.cell hd2).trans g0;replace g1:=(BWR.cell hd2).trans g1;have hki:(0:Int)<=(k:Int):=by omega
   have hkj:(k:Int)<(x.near.length:Int):=by omega
   have e0:=fun W=>Zmt W n.to n.c n.to n.c;rw [YAT rfl] at e0;clear hn hr0 hr1;go_wp2
   go_quiet (fail)
   go_wp2;go_roundw
   case rel=>exact ⟨k+1,by omega,by go_num,hb.trans ⟨rfl,rfl,rfl,YA _,fun _ _=>rfl⟩⟩
   case measure=>simp [intOf];omega
  ·have hkn:k=x.near.length:=by omega
   have KN:=hide hkn;clear hkn hr0 hr1;go_wp2;go_ret;exact⟨rfl,BWR⟩
end Go.Proofs.YtikloccefmofdaaGreat
