/-
  Parts.
-/
import Derived.Test.YtdhnddfnckgbjaaGreatZi15
import Derived.RangeFuncNested
import Derived.RangeFuncBound
namespace Go.Proofs.YtdhnddfnckgbjaaGreat
open Go.RowKit
set_option linter.unusedSimpArgs false
set_option linter.unusedVariables false
set_option maxRecDepth 100000
set_option maxHeartbeats 8000000
variable {hi lo n₀:Nat}{kp:Obj->Bool}{u:Value}{A W W':World}
abbrev LP:=Value × List WP
def Zhr (p:LP):List Value:=[p.1]
theorem ZfN (p:LP):(Zhr p).length=1:=rfl
theorem ZcV {base size n:Nat}{e T:TypeId}{v:Value}{xs:List Value}(h:W.ownsRow base e size v n xs)(hne:e≠T)(hk:∀ (k:Nat) (cs:Array Value) (t:TypeId) (fr:Nat × Nat),W.heap[k]? = some (.cells cs t fr)->t≠T->W'.heap[k]? = W.heap[k]?):W'.ownsRow base e size v n xs:=by
 refine Zai h (fun j hj=>?_);rcases h.2 with ⟨e1,_⟩ | ⟨g2,cap,cur,e1,_,hh,_⟩
 ·rw [e1] at hj;cases hj
 ·rw [e1] at hj;simp [Value.ownBlock] at hj;subst hj;exact hk _ _ _ _ hh hne
theorem WaysOwn.typed {T:TypeId}{v:Value}{ps:List WP}(h:WaysOwn W lo hi v ps)(h1:(144:TypeId)≠T)(h2:(3:TypeId)≠T)(hk:∀ (k:Nat) (cs:Array Value) (t:TypeId) (fr:Nat × Nat),W.heap[k]? = some (.cells cs t fr)->t≠T->W'.heap[k]? = W.heap[k]?):WaysOwn W' lo hi v ps:=
 ⟨ZcV h.row h1 hk,h.top,fun p hp=>⟨ZcV (h.nears p hp).1 h2 hk,(h.nears p hp).2⟩,h.apart⟩
structure WLs (W:World) (lo hi:Nat) (u:Value) (ls:List LP):Prop where
 row:W.ownsRow lo 139 1 u ls.length (flat Zhr ls)
 top:∀ k,u.ownBlock=some k->k<hi
 ways:∀ p∈ls,WaysOwn W lo hi p.1 p.2
theorem WLs.below {B:Nat}{ls:List LP}(h:WLs W lo hi u ls)(hb:Below B W W')(hB:hi<=B):WLs W' lo hi u ls:=
 ⟨Zai h.row (fun k e=>hb.block k (by have:=h.top k e;omega)),h.top,fun p hp=>(h.ways p hp).below hb hB⟩
theorem WLs.wide {lo' hi':Nat}{ls:List LP}(h:WLs W lo hi u ls)(hl:lo'<=lo)(hh:hi<=hi'):WLs W lo' hi' u ls:=
 ⟨Zaf h.row hl,fun k e=>YAC (h.top k e) hh,fun p hp=>(h.ways p hp).wide hl hh⟩
theorem WLs.cell {ls:List LP}(h:WLs W lo hi u ls){i:Nat}{p:LP}(hp:ls[i]? = some p):∃ g cap,u=.slice (some ⟨g,0,none⟩) ls.length cap/\W.cell? ⟨g,i,none⟩=some p.1/\g<hi/\g<W.heap.size:=by
 have hi':i<ls.length:=(YAD.1 hp).1;rcases h.row.2 with ⟨_,e⟩ | ⟨g,cap,cur,hv,_⟩
 ·omega
 ·refine ⟨g,cap,hv,?_,h.top g (by rw [hv];rfl),(h.row.lt g (by rw [hv];rfl)).2⟩;have:=World.ownsRow.cellAt (by rw [<-hv];exact h.row) i (by omega);rw [this];have e:=Zbi ZfN ls i 0 p hp (by omega);simpa [Zhr] using e
theorem WLs.push {Wa W2:World}{u':Value}{ls:List LP}{p:LP}(h:WLs W lo W.heap.size u ls)(hb:Below W.heap.size W Wa)(hp:WaysOwn Wa lo Wa.heap.size p.1 p.2)
  (row:W2.ownsRow lo 139 1 u' (ls.length+1) (flat Zhr (ls++[p]))) (hg:Wa.grownBy W2 u.ownBlock):WLs W2 lo W2.heap.size u' (ls++[p]):=by
 have rowa:=Zad h.row hb (YA _);have hk:∀ (k:Nat) (cs:Array Value) (t:TypeId) (fr:Nat × Nat),Wa.heap[k]? = some (.cells cs t fr)->t≠139->W2.heap[k]? = Wa.heap[k]? := fun k cs t fr hk ht=>hg.block k (Zab hk) (Zas rowa hk (fun e=>ht e.symm));refine⟨by simpa using row,fun k e=>(row.lt k e).2,fun q hq=>?_⟩;rcases YAH.1 hq with h1 | h1
 ·exact (((h.ways q h1).below hb (YA _)).typed (by decide) (by decide) hk).wide (YA _) (YAG hb.size hg.size)
 ·have:q=p:=by simpa using h1
  subst this;exact (hp.typed (by decide) (by decide) hk).wide (YA _) hg.size
theorem Ze5 (v:Value)(ps:List QP)(lo hi:Nat)(w:World)(hv:RtsW w lo hi v ps)(hhi:hi<=w.heap.size)(hn:totQ ps<=1048576):
  Calls Tryz.prog 12 #[v] w fun e w'=>∃ u qs,e=.returned u/\Zag qs=tabD (ps.map (fun p=>lnR p.1))/\LnsOwn w' w.heap.size w'.heap.size u qs/\Below w.heap.size w w':=by
 have hnl:=ZhM ps;obtain⟨a1,c1,rfl⟩:=hv.here.shape;have HV:=hide hv;clear hv
 go_enter Tryz.func12,Tryz.ntmps12
 go_wp2;have b3:=(YAB w.heap.size w).alloc (YA _) (.cells #[] 39);have o3:LnsOwn (w.alloc (.cells #[] 39)) w.heap.size (w.alloc (.cells #[] 39)).heap.size (.slice (some ⟨w.heap.size,0,none⟩) 0 0) []:=by
  have h1:(w.alloc (.cells #[] 39)).ownsRow w.heap.size 39 3 (.slice (some ⟨w.heap.size,0,none⟩) 0 0) 0 (flat encJ []):=YAU w #[] 0 (YA _) (by unfold maxLen;omega) (by simp);exact⟨h1,fun k hk=>(h1.lt k hk).2,by simp,by simp⟩
 generalize w.alloc (.cells #[] 39)=W3 at *;have B3:=hide b3;have O3:=hide o3;clear b3 o3
 go_loopw [3,4] (fun s i wr=>∃ (k:Nat) (ys:List JP) (ya:Option Addr) (yc:Nat),k<=ps.length/\i=.int .i64 (k:Int)/\s=.slice ya ys.length yc/\Hid (Zag ys=tabD ((ps.take k).map (fun p=>lnR p.1)))/\ys.length<=k/\Hid (LnsOwn wr w.heap.size wr.heap.size (.slice ya ys.length yc) ys)/\Below w.heap.size w wr) (fun _ i _=>ps.length-(intOf i).toNat)
 case atStart=>exact ⟨0,[],_,0,by omega,rfl,rfl,hide (by simp [Zag,tabD]),by simp,O3,B3.out⟩
 case round=>
  obtain⟨k,ys,ya,yc,hk,rfl,rfl,HYS,hyl,HYO,hnx⟩:=hrel;have hsz:=hnx.size;by_cases hlt:k<ps.length
  ·obtain ⟨p,hp⟩:∃ p,ps[k]? = some p:=⟨ps[k],YAA hlt⟩;obtain⟨b,off,cp,hve,hbb,d0,d1,d2,d3,d4,d5,hh⟩:=HV.out.here.cells k p hp;cases hve;have hbw:b<w.heap.size:=by omega
   have hno:=(HV.out.nears p (YAF hp)).1;obtain⟨ha,hc,hpe⟩:=Zac hno;rw [hpe] at d5 hno;replace d0:=(hnx.cell hbw).trans d0;replace d1:=(hnx.cell hbw).trans d1;replace d5:=(hnx.cell hbw).trans d5;have hki:(0:Int)<=(k:Int):=by omega
   have hkj:(k:Int)<(ps.length:Int):=by omega
   have hpl:p.1.hops.length<=1048576:=by have:=Zkb (YAF hp);omega
   have HMP:=hide (Zjd hp);have HC:=hide (fun W (hb:Below w.heap.size w W)=>Zem (lnR p.1) (.slice ha p.1.hops.length hc) lo W (Zad hno hb (YA _)) hpl);have HAT:=hide (fun W (hb:Below wr.heap.size wr W)=>Zdz (.slice ya ys.length yc) ys (lnR p.1) (.slice ha p.1.hops.length hc) W ((HYO.out.at.later hb (YA _)).more hb.size) (by omega));rw [HYS.out] at HAT;have HLN:=hide (show lnR p.1=⟨p.1.thing,p.1.to,p.1.hops⟩ from rfl);unfold lnC at HC HAT;have HI:=hide (Zi8 (tabD ((ps.take k).map (fun p=>lnR p.1))) (lnR p.1).thing (lnR p.1).to);obtain⟨I,hI⟩:∃ I,I=idxZ (tabD ((ps.take k).map (fun p=>lnR p.1))) (lnR p.1).thing (lnR p.1).to:=⟨_,rfl⟩;rw [<-hI] at HAT HI;have HII:=hide hI;rw [HLN.out] at HAT HC;simp only [] at HAT HC;clear hp hpe hh hno d2 d3 d4 hI;have hbr:b<wr.heap.size:=by omega
   go_wp2
   go_region
   have bb:Below wr.heap.size wr (wr.alloc (.cells #[.bool p.1.thing,.int .i64 p.1.to,.slice ha p.1.hops.length hc] 39)).drew:=((YAB wr.heap.size wr).alloc (YA _) (.cells #[.bool p.1.thing,.int .i64 p.1.to,.slice ha p.1.hops.length hc] 39)).drew;have hbx:(wr.alloc (.cells #[.bool p.1.thing,.int .i64 p.1.to,.slice ha p.1.hops.length hc] 39)).drew.heap[wr.heap.size]? = some (.cells #[.bool p.1.thing,.int .i64 p.1.to,.slice ha p.1.hops.length hc] 39):=YAE wr (.cells #[.bool p.1.thing,.int .i64 p.1.to,.slice ha p.1.hops.length hc] 39);obtain⟨W5,hW5⟩:∃ W5,W5=(wr.alloc (.cells #[.bool p.1.thing,.int .i64 p.1.to,.slice ha p.1.hops.length hc] 39)).drew:=⟨_,rfl⟩;rw [<-hW5] at bb hbx |-;clear hW5 d0 d1 d5;have b5s:=bb.size;have hlx:=Zab hbx;have x0:=Zaa hbx 0;have x1:=Zaa hbx 1;have x2:=Zaa hbx 2;simp at x0 x1 x2;have HBX:=hide hbx;clear hbx
   go_wp2_with fail
   refine (HAT.out W5 bb).mono ?_;rintro e w6 ⟨rfl,b6⟩;have b6s:=b6.size;have b56:Below wr.heap.size wr w6:=bb.trans (b6.mono b5s);have bw6:Below w.heap.size w w6:=hnx.trans (b56.mono hsz);rcases HI.out with hi | hi
   ·subst hi;have hbx6:=(b6.block _ hlx).trans HBX.out;have y0:=Zaa hbx6 0;have y1:=Zaa hbx6 1;have y2:=Zaa hbx6 2;simp at y0 y1 y2;clear x0 x1 x2 hbx6 HBX
    go_wp2_with fail
    refine (HC.out w6 bw6).mono ?_;rintro e w7 ⟨v7,rfl,hn7,b7⟩;obtain⟨n7a,n7c,rfl⟩:=Zac hn7;have b7s:=b7.size;have b57:Below wr.heap.size wr w7:=b56.trans (b7.mono (by omega))
    go_wp2_with (first
     | (at_builtin;refine Zay Zb6 (by omega) (by omega) _ rfl _ _ 24 rfl w.heap.size 39 Tryz.underlying24 (.agg (lnC ZdW (.slice none 0 0))) rfl Tryz.infoLine _ ys (lnR p.1,.slice n7a p.1.hops.length n7c) (Zfs _ _ _ _) rfl ((Zad HYO.out.row b57 (YA _)).alloc _) ⟨w7.heap.size,0,none⟩ 1 rfl (Zak (cs:=encJ (lnR p.1,.slice n7a p.1.hops.length n7c))) (by omega) (by simp;omega) ?_))
    intro v' w8 hown' hgrow;have ow8:=HYO.out.push (p:=(lnR p.1,.slice n7a p.1.hops.length n7c)) (b57.alloc b57.size _) (by omega) (ZaW.wide (ZaW.keep ⟨Zaf hn7 (by omega),fun k hk=>(hn7.lt k hk).2⟩ (fun j _ _ h3=>YAI _ _ _ h3)) (YA _) (by simp)) (by simpa using hown') hgrow;have hl8:(ys++[(lnR p.1,Value.slice n7a p.1.hops.length n7c)]).length=ys.length+1:=by simp
    have hb8:Below w.heap.size w w8:=((hnx.trans (b57.mono hsz)).alloc (by omega) _).grown hgrow (by simp;omega) (fun k hk=>(HYO.out.row.lt k hk).1);obtain⟨va,vc,hve⟩:=Zac ow8.row;rw [hl8] at hve;subst hve;have OW8:=hide (show LnsOwn w8 w.heap.size w8.heap.size (.slice va (ys++[(lnR p.1,Value.slice n7a p.1.hops.length n7c)]).length vc) (ys++[(lnR p.1,Value.slice n7a p.1.hops.length n7c)]) by rw [hl8];exact ow8);have HY8:=hide (show Zag (ys++[(lnR p.1,Value.slice n7a p.1.hops.length n7c)])=tabD ((ps.take (k+1)).map (fun p=>lnR p.1)) by rw [HMP.out,ZhI HII.out.symm, <-HYS.out];simp [Zag]);have HRF:=hide (show Value.slice va (ys.length+1) vc=.slice va (ys++[(lnR p.1,Value.slice n7a p.1.hops.length n7c)]).length vc by rw [hl8]);clear ow8 hown' hgrow hn7 HYO HYS HMP HC HAT hl8;go_wp2;go_roundw
    case rel=>exact ⟨k+1,ys++[(lnR p.1,.slice n7a p.1.hops.length n7c)],va,vc,by omega,by go_num,HRF.out,HY8,by simp;omega,OW8,hb8⟩
    case measure=>simp [intOf];omega
   ·have HY8:=hide (show Zag ys=tabD ((ps.take (k+1)).map (fun p=>lnR p.1)) by rw [HMP.out,Zjw (by rw [<-HII.out];exact hi)];exact HYS.out);have OW8:=hide ((HYO.out.below b56 (YA _)).wide (YA _) b56.size);clear x0 x1 x2 HBX;go_wp2;go_roundw
    case rel=>exact ⟨k+1,ys,ya,yc,by omega,by go_num,rfl,HY8,by omega,OW8,bw6⟩
    case measure=>simp [intOf];omega
  ·have hkn:k=ps.length:=by omega
   have KN:=hide hkn;clear hkn;go_wp2;go_ret;refine⟨_,ys,rfl,?_,HYO.out,hnx⟩;have h1:=HYS.out;rw [KN.out,YAX] at h1;exact h1
structure KeepK (kp:Obj->Bool) (n₀:Nat) (A B:World):Prop where
 below:Below n₀ A B
 same:∀ (k:Nat) (o:Obj),A.heap[k]? = some o->kp o=true->B.heap[k]? = some o
theorem KeepK.refl (kp:Obj->Bool)(n₀:Nat)(A:World):KeepK kp n₀ A A:=⟨YAB _ _,fun _ _ h _=>h⟩
theorem KeepK.trans {B C:World}(h:KeepK kp n₀ A B)(k:KeepK kp n₀ B C):KeepK kp n₀ A C:=⟨h.below.trans k.below,fun i o hi ho=>k.same i o (h.same i o hi ho) ho⟩
theorem KeepK.of_below (kp:Obj->Bool){B:World}(h:Below A.heap.size A B)(hn:n₀<=A.heap.size):KeepK kp n₀ A B:=
 ⟨h.mono hn,fun k o hk _=>(h.block k (Array.getElem?_eq_some_iff.1 hk).1).trans hk⟩
theorem KeepK.put {l:Nat}{o:Obj}(o':Obj)(hl:A.heap[l]? = some o)(ho:kp o=false)(hn:n₀<=l):KeepK kp n₀ A (A.putObj l o'):=by
 have hlt:=(Array.getElem?_eq_some_iff.1 hl).1;refine⟨(YAB _ _).grown (grownBy_putObj' A l o') (by omega) (fun k e=>by cases e;omega),fun k o2 hk h2=>?_⟩;have hne:l≠k:=by
  intro e;subst e;rw [hl] at hk;cases hk;rw [ho] at h2;cases h2
 exact (World.putObj_heap_other (Ne.symm hne)).trans hk
abbrev Zk9:=KeepK Obj.isCells
def Zn9 {α:Type}(F:Fence)(n:Nat)(P:Program)(g:Nat)(lb:Array Value)(encs:α->Array Value)(Ok:α->World->Prop)(kp:Obj->Bool)(n₀:Nat)(S:List α->Prop)(N:Nat)(w:World):Prop:=
 ∀ (l:Nat) (J:List α->World->Prop) (W:World),Below w.heap.size w W ->
  (∀ s A B,J s A->Below A.heap.size A B->J s B) ->
  (∀ pre x W1,J pre W1->Ok x W1->pre.length<N->YieldAt F (n-1) P l (encs x) W1 fun e W'=>e=.returned (.bool true)/\J (pre++[x]) W'/\KeepK kp n₀ W1 W') ->
  J [] W ->
  CallsIn F n P g (#[.func (.yield l) #[] #[]]++lb) W fun e W'=>(∃ v,e=.returned v)/\∃ xs,S xs/\J xs W'
theorem Ziw {F:Fence}{n:Nat}{P:Program}{α:Type}{g:Operand}{ps:Array Tmp}{assign body:Go.Code}{Q:Exit->Act->World->Prop}{a:Act}{w:World}
  (hro:F.round=none) (h1:1<=n) {gf:Nat} {lb:Array Value} (hg:a.eval g=.func (.func gf) #[] lb) (hFg:F.fn gf) (eg:∀ args w,(callFunc gf args).run P w=.ok (.enter gf args) w)
  {encs:α->Array Value} {Ok:α->World->Prop}   {S:List α->Prop} {N:Nat} {w0:World} (hseq:Zn9 F (n-1) P gf lb encs Ok kp n₀ S N w0)
  (hkL:∀ r,kp (.loop r)=false) (hn0:n₀<=w.heap.size) (hb0:Below w0.heap.size w0 w) (hps:∀ x,(encs x).size=ps.size)
  (I:List α->World->Prop) (hI:∀ s A B,I s A->Zk9 n₀ A B->I s B) (hO:∀ x A B,Ok x A->Zk9 n₀ A B->Ok x B) (h0:I [] w)
  (hround:∀ (l:Nat) (pre:List α) (x:α) (W:World),I pre W->Ok x W->pre.length<N->w.heap.size<=l->l<W.heap.size ->
   assign.wpIn (F.inRound l) (n-1-1) P (Exit.then (fun a₁ W1=>KeepK kp n₀ W W1/\KeepsOthers W W1/\∀ W2,Zk9 n₀ W1 W2->W1.heap.size=W2.heap.size->body.wpIn (F.inRound l) (n-1-1) P (fun e _ W'=>e=.normal/\KeepsOthers W2 W'/\KeepK kp n₀ W2 W'/\I (pre++[x]) W') a₁ W2) (fun _ _ _=>False))
    {tmps:=(ps.zip (encs x)).foldl (fun t (p,v)=>t.setIfInBounds p v) a.tmps,defers:=[] } W)
  (hdone:∀ (D:Nat) (xs:List α) (W:World),w.heap.size<=D->S xs->I xs W->W.heap[D]? = some (.deferred (some []))->Q .normal { a with defers := { target:=.collected D,args:=#[] }::a.defers } W):
  (Go.Code.rangeFunc g ps assign body).wpIn F n P Q a w:=by
 refine wpIn_rangeFunc fun fn hfn=>?_;rw [hro];obtain⟨rec,hrec⟩:∃ rec:LoopState->Option Go.Code->Loop,rec=fun st pe => { state:=st,pending:=pe,fn,tmps:=a.tmps,params:=ps,assign,body,defers:=w.heap.size }:=⟨_,rfl⟩;obtain⟨W1,hW1⟩:∃ W1,W1=(w.alloc (.deferred (some []))).alloc (.loop (rec .ready none)):=⟨_,rfl⟩;have bW1:Below w.heap.size w W1:=by rw [hW1];exact ((YAB _ w).alloc (YA _) _).alloc (by simp) _
 have hL1:W1.heap[w.heap.size+1]? = some (.loop (rec .ready none)):=by
  rw [hW1];have:=World.alloc_heap_new (w.alloc (.deferred (some []))) (.loop (rec .ready none));rwa [World.size_alloc] at this
 have hD1:W1.heap[w.heap.size]? = some (.deferred (some [])):=by
  rw [hW1];exact (YAI _ _ _ (by simp)).trans (World.alloc_heap_new w _)
 refine⟨w.heap.size+1,[{ target:=.collected w.heap.size,args:=#[] }],W1, { target:=.fn (.func gf) lb,args:=#[.func (.yield (w.heap.size+1)) #[] #[]] },W1,gf,#[.func (.yield (w.heap.size+1)) #[] #[]]++lb,W1,?_,?_,?_,?_,fun _=>h1,?_⟩
 ·rw [hW1,hrec];exact run_enterLoop_outer _ _ _ _ _
 ·simp only [resolve,hg];simp [go_sem]
 ·intro f' hf';simp [Target.leads] at hf';subst hf';exact hFg
 ·simp [invoke,go_sem,eg]
 refine (hseq (w.heap.size+1) (fun pre W=>I pre W/\W.heap[w.heap.size+1]? = some (.loop (rec .ready none))/\W.heap[w.heap.size]? = some (.deferred (some []))/\n₀<=W.heap.size) W1 (hb0.trans (bW1.mono hb0.size)) ?_ ?_ ?_).mono ?_
 ·rintro s A B ⟨i1,i2,i3,i4⟩ hb;exact⟨hI s A B i1 (KeepK.of_below _ hb i4),(hb.block _ (Array.getElem?_eq_some_iff.1 i2).1).trans i2,(hb.block _ (Array.getElem?_eq_some_iff.1 i3).1).trans i3,YAG i4 hb.size⟩
 ·rintro pre x W ⟨hi,hl,hk,hs⟩ hok hlen;have hlt:w.heap.size+1<W.heap.size:=(Array.getElem?_eq_some_iff.1 hl).1;have hy:=run_yield (P:=P) (args:=encs x) hl (by rw [hrec];exact hps x);rw [hrec] at hy;refine⟨fn,_,assign,body,hy,roundIn_of_wpIn hfn (wpIn_mono (hround _ pre x W hi hok hlen (by omega) hlt) ?_)⟩;rintro e a1 W2 hp;cases e with
  | normal=>
   obtain⟨k2,o2,hbody⟩:=hp;have hl2:=o2.same _ _ hl rfl;have hk2:=o2.same _ _ hk rfl;refine⟨_,run_beginRound hl2 (by rw [hrec]),wpIn_mono (hbody _ (KeepK.put _ hl2 rfl (by omega)) (by simp [World.putObj])) ?_⟩;have hl3:(W2.putObj (w.heap.size+1) (.loop { rec .ready none with state:=.busy })).heap[w.heap.size+1]? = some (.loop { rec .ready none with state:=.busy }):=World.putObj_heap_same (Array.getElem?_eq_some_iff.1 hl2).1;have hk3:(W2.putObj (w.heap.size+1) (.loop { rec .ready none with state:=.busy })).heap[w.heap.size]? = some (.deferred (some [])):=(World.putObj_heap_other (by omega)).trans hk2;rintro e3 a3 W3 ⟨rfl,o3,k3,i3⟩;have hl4:=o3.same _ _ hl3 rfl;have hk4:=o3.same _ _ hk3 rfl;have he:=run_endRound (P:=P) none hl4;have hlt4:=(Array.getElem?_eq_some_iff.1 hl4).1;refine⟨_,_,he,rfl,⟨hI _ _ _ i3 (KeepK.put _ hl4 rfl (by omega)),?_,(World.putObj_heap_other (by omega)).trans hk4,by simp [World.putObj];omega⟩,((k2.trans (KeepK.put _ hl2 (hkL _) (by omega))).trans k3).trans (KeepK.put _ hl4 (hkL _) (by omega))⟩;rw [World.putObj_heap_same hlt4];rw [hrec];rfl
  | _=>exact hp.elim
 ·exact ⟨hI _ _ _ h0 (KeepK.of_below _ bW1 hn0),hL1,hD1,YAG hn0 bW1.size⟩
 ·rintro e W2 ⟨⟨v,rfl⟩,xs,hS,hi,hl,hk,hs⟩;have he:=run_endLoop (P:=P) hl (by rw [hrec];simp);exact⟨_,_,he,by
   have hq:=hdone w.heap.size xs _ (YA _) hS (hI _ _ _ hi (KeepK.put (.loop { rec .ready none with state:=.exhausted }) hl rfl (by omega))) ((World.putObj_heap_other (by omega)).trans hk);rw [hrec] at hq |-;exact hq⟩
end Go.Proofs.YtdhnddfnckgbjaaGreat
