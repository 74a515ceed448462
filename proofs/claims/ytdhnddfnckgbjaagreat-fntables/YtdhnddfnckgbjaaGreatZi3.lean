/-
  Parts.
-/
import Derived.Test.YtdhnddfnckgbjaaGreatZi2
import Derived.Lib.Join
namespace Go.Proofs.YtdhnddfnckgbjaaGreat
open Go.RowKit
set_option linter.unusedSimpArgs false
set_option linter.unusedVariables false
set_option maxRecDepth 100000
set_option maxHeartbeats 8000000
variable {a b c d:Int}{bs:List Bool}{xs ys:List Int}{ls:List Lk}{B C h2 hi hi' k l2 lo lo' p:Nat}{v:Value}{W W':World}
def Zgw (f t r:Int)(p:Lk × Bool):Bool:=p.2&&ZdQ f t r p.1
def ZdD (ls:List Lk)(bs:List Bool)(f t r:Int):Int:=(((ls.zip bs).find? (Zgw f t r)).map (·.1.c)).getD 0
theorem zip_at {l:Lk}{b:Bool}(h:ls[k]? = some l)(hb:bs[k]? = some b):(ls.zip bs)[k]? = some (l,b):=by
 rw [List.getElem?_zip_eq_some];exact⟨h,hb⟩
theorem Znl {f t r:Int}{l:Lk}{b:Bool}(h:∀ j,j<k->∀ x,(ls.zip bs)[j]? = some x->Zgw f t r x=false)(hl:(ls.zip bs)[k]? = some (l,b))(hp:Zgw f t r (l,b)=true):ZdD ls bs f t r=l.c:=by
 unfold ZdD;rw [ZeQ _ _ k _ h hl hp];rfl
theorem Zl2 {f t r:Int}(h:∀ j,j<k->∀ x,(ls.zip bs)[j]? = some x->Zgw f t r x=false)(hk:k=ls.length):ZdD ls bs f t r=0:=by
 unfold ZdD;rw [ZgN _ _ (fun j hj=>h j (by rw [List.length_zip] at hj;omega))];rfl
def NoHit (ls:List Lk)(bs:List Bool)(f t r:Int)(k:Nat):Prop:=∀ j,j<k->∀ x,(ls.zip bs)[j]? = some x->Zgw f t r x=false
theorem Zmi (n:Value)(v tv y:Value)(ls:List Lk)(bs:List Bool)(f t r:Int)(w:World)(hls:ls.length<=1048576)(hbs:bs.length=ls.length)(hv:ZaX w v ls w.heap.size)(hy:Zcp w y bs w.heap.size):
  Calls Tryz.prog 80 #[.agg #[n,v,tv],y,.int .i64 f,.int .i64 t,.int .i64 r] w fun e w'=>e=.returned (.int .i64 (ZdD ls bs f t r))/\Below w.heap.size w w':=by
 obtain⟨a,cap,rfl⟩:∃ a cap,v=.slice a ls.length cap:=by obtain ⟨a,cap,h,_⟩:=hv;exact⟨a,cap,h⟩
 obtain⟨a2,cap2,rfl⟩:=hy.shape;have HV:=hide hv;have HY:=hide hy;have HBS:=hide hbs;clear hv hy hbs
 go_enter Tryz.func80,Tryz.ntmps80
 go_wp2
 go_loopw [11] (fun i wr=>∃ k:Nat,k<=ls.length/\i=.int .i64 k/\NoHit ls bs f t r k/\Below w.heap.size w wr/\wr.heap[w.heap.size]? = some (.cells #[n,.slice a ls.length cap,tv] 81)) (fun i _=>ls.length-(intOf i).toNat)
 case atStart=>exact ⟨0,by omega,rfl,fun j hj=>absurd hj (Nat.not_lt_zero _),(YAB _ _).alloc (YA _) _,YAE w _⟩
 case round=>
  obtain⟨k,hk,rfl,hno,hb,hx⟩:=hrel;have hx1:wr.cell? ⟨w.heap.size,1,none⟩=some (.slice a ls.length cap):=by rw [Zaa hx];rfl
  have HX:=hide hx;have HNO:=hide hno;clear hx hno;by_cases hlt:k<ls.length
  ·obtain ⟨l,hl⟩:∃ l,ls[k]? = some l:=⟨ls[k],YAA hlt⟩;have hltb:k<bs.length:=by have:=HBS.out;omega
   obtain⟨b1,hb1⟩:∃ b,bs[k]? = some b:=⟨bs[k],YAA hltb⟩;obtain⟨b,off,cap',hve,hbb,c0,c1,c2,c3⟩:=HV.out.cells k l hl;cases hve;obtain⟨g,off2,cap2',hve2,hgg,d0⟩:=HY.out.cell k b1 hb1;cases hve2;replace c0:=(hb.cell hbb).trans c0;replace c1:=(hb.cell hbb).trans c1;replace c2:=(hb.cell hbb).trans c2;replace c3:=(hb.cell hbb).trans c3;replace d0:=(hb.cell hgg).trans d0;have HL:=hide (zip_at hl hb1);have hlb:(k:Int)<(bs.length:Int):=by omega
   have hgw:g<wr.heap.size:=by have:=hb.size;omega
   clear hl hb1 hgg;obtain⟨la,lb,lc,lr⟩:=l;cases b1
   all_goals go_wp2
   all_goals first
    | (go_ret
       refine⟨ZhG (Znl HNO.out HL.out ?_).symm,hb.alloc hb.size _⟩;clear HV HX HL HNO hb hx1 c0 c1 c2 c3 d0 HY;simp only [Zgw,ZdQ];grind)
    | (refine ⟨⟨k+1,by omega,by go_num,Zjh HNO.out HL.out ?_,hb.alloc hb.size _,?_⟩,by simp [intOf];omega⟩
       ·clear HV HX HL HNO hb hx1 c0 c1 c2 c3 d0 HY;simp only [Zgw,ZdQ];grind
       ·rw [YAI _ _ _ (Zab HX.out)];exact HX.out)
    | (subst_vars
       refine⟨⟨k+1,by omega,by go_num,Zjh HNO.out HL.out ?_,hb.alloc hb.size _,?_⟩,by simp [intOf];omega⟩
       ·clear HV HX HL HNO hb hx1 c0 c1 c2 c3 d0 HY;simp only [Zgw,ZdQ];grind
       ·rw [YAI _ _ _ (Zab HX.out)];exact HX.out)
  ·have hk':k=ls.length:=by omega
   have HK:=hide hk';clear hk';go_wp2;go_ret;exact⟨ZhG (Zl2 HNO.out HK.out).symm,hb⟩
def ZeB (ls:List Lk)(v r:Int):List Int:=([1,2,3,4,5,6]:List Int).filter fun u=>decide (0<Zd1 ls v u r)
def ZaB (ls:List Lk)(v:Int):List Int:=([0,1,2]:List Int).filter fun r=>decide (0<(ZeB ls v r).length)
def Zfm (ls:List Lk)(v:Int):Bool:=decide (1<(ZaB ls v).length)&&((ZaB ls v).head? == some 0)
def ZbX (p:Int->Bool)(s:Int):Nat->List Int
 | 0=>[]
 | k+1=>ZbX p s k++(if p (s+(k:Int)) then [s+(k:Int)] else [])
theorem Ze0 (p:Int->Bool)(s:Int):∀ k,(ZbX p s k).length<=k
 | 0=>by simp [ZbX]
 | k+1=>by
  have:=Ze0 p s k;simp only [ZbX]
  split <;> simp <;> omega
theorem Zjg (ls:List Lk)(v r:Int):ZeB ls v r=ZbX (fun u=>decide (0<Zd1 ls v u r)) 1 6:=by
 simp [ZeB,ZbX,List.filter_cons]
 repeat' split
 all_goals simp
theorem Zmh (n:Value)(v tv:Value)(ls:List Lk)(f r:Int)(w:World)(hls:ls.length<=1048576)(hv:ZaX w v ls w.heap.size):
  Calls Tryz.prog 88 #[.agg #[n,v,tv],.int .i64 f,.int .i64 r] w fun e w'=>∃ x,e=.returned x/\w'.ownsRow w.heap.size 3 1 x (ZeB ls f r).length (ZbU (ZeB ls f r))/\Below w.heap.size w w':=by
 have HV:=hide hv;clear hv;rw [Zjg]
 go_enter Tryz.func88,Tryz.ntmps88
 go_wp2
 go_loopw [7,8] (fun x i wr=>∃ k:Nat,k<=6/\i=.int .i64 (1+(k:Int))/\Below w.heap.size w wr/\wr.heap[w.heap.size]? = some (.cells #[n,v,tv] 81)/\wr.ownsRow (w.heap.size+1) 3 1 x (ZbX (fun u=>decide (0<Zd1 ls f u r)) 1 k).length (ZbU (ZbX (fun u=>decide (0<Zd1 ls f u r)) 1 k))) (fun _ i _=>8-(intOf i).toNat)
 case atStart=>
  refine⟨0,by omega,rfl,ZaK _ _,?_,?_⟩
  ·rw [YAI _ _ _ (show w.heap.size<(w.alloc (.cells #[n,v,tv] 81)).heap.size by simp),YAE]
  ·have h0:=YAU (base:=w.heap.size+1) (w.alloc (.cells #[n,v,tv] 81)) (#[]:Array Value) 0 (by simp) (by decide) (e:=3) (size:=1) rfl;simpa [ZbX,ZbU] using h0
 case round=>
  obtain⟨k,hk,rfl,hb,hx,hown⟩:=hrel;have c0:wr.cell? ⟨w.heap.size,0,none⟩=some n:=by rw [Zaa hx];rfl
  have c1:wr.cell? ⟨w.heap.size,1,none⟩=some v:=by rw [Zaa hx];rfl
  have c2:wr.cell? ⟨w.heap.size,2,none⟩=some tv:=by rw [Zaa hx];rfl
  have hxl:=Zab hx;have HX:=hide hx;have OW:=hide hown;clear hx hown;by_cases hlt:k<6
  ·go_wp2_with fail
   refine (Zme n v tv ls f (1+(k:Int)) r wr hls (HV.out.then hb)).mono ?_;rintro e w1 ⟨rfl,b1⟩;have hown1:=Zad OW.out b1 (YA _);have hx1:w1.heap[w.heap.size]? = some (.cells #[n,v,tv] 81):=by rw [b1.block _ hxl];exact HX.out
   have hb1:Below w.heap.size w w1:=hb.trans (b1.mono hb.size);have hz1:=b1.size;have hpl:=Ze0 (fun u=>decide (0<Zd1 ls f u r)) 1 k;have HX1:=hide hx1;obtain⟨l2,hl20⟩:∃ l2,l2=ZbX (fun u=>decide (0<Zd1 ls f u r)) 1 (k+1):=⟨_,rfl⟩;have HL20:=hide hl20;have hps:Hid (l2=ZbX (fun u=>decide (0<Zd1 ls f u r)) 1 k++(if decide (0<Zd1 ls f (1+(k:Int)) r) then [1+(k:Int)] else [])):=hl20;clear hl20;clear b1 hx1 c0 c1 c2 OW HX;generalize ZbX (fun u=>decide (0<Zd1 ls f u r)) 1 k=l at hown1 hpl hps;generalize Zd1 ls f (1+(k:Int)) r=c at hps |-;by_cases hc:0<c
   ·have hl2:l2=l++[1+(k:Int)]:=by rw [hps.out];simp [hc]
    have HL2:=hide hl2;clear hl2 hps
    go_wp2_with (first
     | (at_builtin;refine Zc0 _ rfl _ _ 37 rfl (w.heap.size+1) 3 Tryz.underlying37 Tryz.info3 u7 l (1+(k:Int)) rfl (hown1.alloc _) ⟨w1.heap.size,0,none⟩ 1 rfl ?_ (by omega) (by simp;omega) ?_))
    ·rw [add_zero',World.cell?_alloc_at _ _ _ _ rfl];rfl
    intro v' w4 l' hl' hown' hgrow;have hb4:Below w.heap.size w w4:=(hb1.alloc (by omega) _).grown hgrow (by simp;omega) (fun k hk=>by have:=(hown1.lt k hk).1;omega);have hx4:w4.heap[w.heap.size]? = some (.cells #[n,v,tv] 81):=by
     rw [hgrow.block _ (by simp;omega) (fun h=>by have:=(hown1.lt _ h.symm).1;omega),YAI _ _ _ (by omega)];exact HX1.out
    have e:l'=l2:=by rw [hl'.out,HL2.out]
    subst e;have OW2:=hide hown';have HX4:=hide hx4;clear hgrow hown' hx4 hown1;go_wp2;go_roundw
    case rel=>exact ⟨k+1,by omega,by go_num,hb4,HX4.out,by rw [<-HL20.out];exact OW2.out⟩
    case measure=>simp [intOf];omega
   ·have hl2:l2=l:=by rw [hps.out];simp [hc]
    subst hl2;have OW2:=hide hown1;clear hown1 hps;go_wp2;go_roundw
    case rel=>exact ⟨k+1,by omega,by go_num,hb1,HX1.out,by rw [<-HL20.out];exact OW2.out⟩
    case measure=>simp [intOf];omega
  ·have hk':k=6:=by omega
   subst hk';go_wp2;go_ret;exact⟨_,rfl,Ziu OW.out (by omega),hb⟩
abbrev RP:=RecD × Value
def encP (p:RP):List Value:=[.int .i64 p.1.area,.int .i64 p.1.kind,.int .i64 p.1.owner,.int .i64 p.1.key,.int .i64 p.1.seq,p.2,.int .i64 p.1.cost,.bool p.1.far]
theorem Zb7 (p:RP):(encP p).length=8:=rfl
def Zb3:RecD:=⟨0,0,0,0,0,[],0,false⟩
def ZbT (W:World)(v:Value)(ps:List RP)(B:Nat):Prop:=Zaw encP 8 W v ps B/\∀ p∈ps,ZaJ W p.2 p.1.near B
theorem ZbT.shape {ps:List RP}(h:ZbT W v ps B):∃ a cap,v=.slice a ps.length cap:=by
 obtain⟨⟨a,cap,h,_⟩,_⟩:=h;exact⟨a,cap,h⟩
theorem ZbT.later {ps:List RP}(h:ZbT W v ps B)(hb:Below C W W')(hBC:B<=C):ZbT W' v ps B:=
 ⟨Zau.later h.1 hb hBC,fun p hp=>Zau.later (h.2 p hp) hb hBC⟩
theorem ZbT.more {ps:List RP}(h:ZbT W v ps B)(hBC:B<=C):ZbT W v ps C:=
 ⟨Zau.more h.1 hBC,fun p hp=>Zau.more (h.2 p hp) hBC⟩
theorem ZbT.then {ps:List RP}(h:ZbT W v ps W.heap.size)(hb:Below W.heap.size W W'):ZbT W' v ps W'.heap.size:=(h.later hb (YA _)).more hb.size
theorem ZbT.cells {ps:List RP}(h:ZbT W v ps B)(i:Nat)(p:RP)(hp:ps[i]? = some p):
  ∃ b off cap,v=.slice (some ⟨b,off,none⟩) ps.length cap/\b<B/\W.cell? ⟨b,off+i*8,none⟩=some (.int .i64 p.1.area)/\W.cell? ⟨b,off+i*8+1,none⟩=some (.int .i64 p.1.kind)/\W.cell? ⟨b,off+i*8+2,none⟩=some (.int .i64 p.1.owner)/\W.cell? ⟨b,off+i*8+3,none⟩=some (.int .i64 p.1.key)/\W.cell? ⟨b,off+i*8+4,none⟩=some (.int .i64 p.1.seq)/\W.cell? ⟨b,off+i*8+5,none⟩=some p.2/\W.cell? ⟨b,off+i*8+6,none⟩=some (.int .i64 p.1.cost)/\W.cell? ⟨b,off+i*8+7,none⟩=some (.bool p.1.far)/\ZaJ W p.2 p.1.near B:=by
 obtain⟨b,off,cap,hv,hb,hc⟩:=Zaw.cell h.1 Zb7 i p hp;exact⟨b,off,cap,hv,hb,hc 0 _ rfl,hc 1 _ rfl,hc 2 _ rfl,hc 3 _ rfl,hc 4 _ rfl,hc 5 _ rfl,hc 6 _ rfl,hc 7 _ rfl,h.2 p (YAF hp)⟩
def ZaE (W:World)(lo hi:Nat)(p:RP):Prop:=W.ownsRow lo 135 2 p.2 p.1.near.length (flat nrE p.1.near)/\∀ k,p.2.ownBlock=some k->k<hi
def Zkf (p q:RP):Prop:=∀ k,p.2.ownBlock=some k->q.2.ownBlock≠some k
structure RecsOwn (W:World) (lo hi:Nat) (v:Value) (ps:List RP):Prop where
 row:W.ownsRow lo 132 8 v ps.length (flat encP ps)
 top:∀ k,v.ownBlock=some k->k<hi
 nears:∀ p∈ps,ZaE W lo hi p
 apart:ps.Pairwise Zkf
theorem Zai {base size:Nat}{e:TypeId}{n:Nat}{xs:List Value}(h:W.ownsRow base e size v n xs)(hk:∀ k,v.ownBlock=some k->W'.heap[k]? = W.heap[k]?):W'.ownsRow base e size v n xs:=by
 refine⟨h.1,?_⟩;rcases h.2 with h2 | ⟨g,cap,cur,hv,hg,hh,r⟩
 ·exact .inl h2
 ·exact .inr ⟨g,cap,cur,hv,hg,by rw [hk g (by rw [hv];rfl)];exact hh,r⟩
theorem ZaE.keep {p:RP}(h:ZaE W lo hi p)(hk:∀ k,lo<=k->k<hi->k<W.heap.size->W'.heap[k]? = W.heap[k]?):ZaE W' lo hi p:=
 ⟨Zai h.1 (fun k e=>hk k (h.1.lt k e).1 (h.2 k e) (h.1.lt k e).2),h.2⟩
theorem ZaE.wide {p:RP}(h:ZaE W lo hi p)(hl:lo'<=lo)(hh:hi<=hi'):ZaE W lo' hi' p:=
 ⟨Zaf h.1 hl,fun k e=>YAC (h.2 k e) hh⟩
theorem ZaE.at {p:RP}(h:ZaE W lo hi p):ZaJ W p.2 p.1.near hi:=by
 have h1:=Zan h.1;obtain⟨a,cap,hv,h2⟩:=h1;refine⟨a,cap,hv,?_⟩;rcases h2 with h0 | ⟨b,off,ha,hb1,hx⟩
 ·exact .inl h0
 ·exact .inr ⟨b,off,ha,h.2 b (by rw [hv,ha];rfl),hx⟩
theorem RecsOwn.keep {ps:List RP}(h:RecsOwn W lo hi v ps)(hk:∀ k,lo<=k->k<hi->k<W.heap.size->W'.heap[k]? = W.heap[k]?):RecsOwn W' lo hi v ps where
 row:=Zai h.row (fun k e=>hk k (h.row.lt k e).1 (h.top k e) (h.row.lt k e).2)
 top:=h.top
 nears:=fun p hp=>(h.nears p hp).keep hk
 apart:=h.apart
theorem RecsOwn.below {ps:List RP}(h:RecsOwn W lo hi v ps)(hb:Below B W W')(hB:hi<=B):RecsOwn W' lo hi v ps:=h.keep (fun k _ h2 _=>hb.block k (by omega))
theorem RecsOwn.wide {ps:List RP}(h:RecsOwn W lo hi v ps)(hl:lo'<=lo)(hh:hi<=hi'):RecsOwn W lo' hi' v ps where
 row:=Zaf h.row hl
 top:=fun k e=>YAC (h.top k e) hh
 nears:=fun p hp=>(h.nears p hp).wide hl hh
 apart:=h.apart
theorem RecsOwn.at {ps:List RP}(h:RecsOwn W lo hi v ps):ZbT W v ps hi:=by
 refine⟨?_,fun p hp=>(h.nears p hp).at⟩;have h1:=Zan h.row;obtain⟨a,cap,hv,h2⟩:=h1;refine⟨a,cap,hv,?_⟩;rcases h2 with h0 | ⟨b,off,ha,hb1,hx⟩
 ·exact .inl h0
 ·exact .inr ⟨b,off,ha,h.top b (by rw [hv,ha];rfl),hx⟩
structure Frame (lo hi:Nat) (w w':World):Prop where
 os:w'.os=w.os
 tape:w'.tape=w.tape
 output:w'.output=w.output
 size:w.heap.size<=w'.heap.size
 block:∀ k,k<w.heap.size->(k<lo\/hi<=k)->w'.heap[k]? = w.heap[k]?
theorem Frame.refl (lo hi:Nat)(w:World):Frame lo hi w w:=⟨rfl,rfl,rfl,YA _,fun _ _ _=>rfl⟩
theorem Frame.trans {a b c:World}(h:Frame lo hi a b)(k:Frame lo hi b c):Frame lo hi a c:=
 ⟨k.os.trans h.os,k.tape.trans h.tape,k.output.trans h.output,YAG h.size k.size,fun i hi hr=>(k.block i (YAC hi h.size) hr).trans (h.block i hi hr)⟩
theorem Frame.grown {a b:World}{row:Option Nat}(g:a.grownBy b row)(hr:∀ k,row=some k->lo<=k/\k<hi):Frame lo hi a b:=
 ⟨g.os,g.tape,g.output,g.size,fun k hk hh=>g.block k hk (fun e=>by have:=hr k e.symm;omega)⟩
theorem Frame.set (w:World)(p j:Nat)(u:Value)(h1:lo<=p)(h2:p<hi):Frame lo hi w (w.setCell ⟨p,j,none⟩ u):=Frame.grown (Zaj w p j u) (fun k e=>by simp at e;omega)
theorem Frame.below {w w':World}(h:Frame lo hi w w')(hw:lo<=w.heap.size):Below lo w w':=(YAB _ _).trans ⟨h.os,h.tape,h.output,h.size,fun k hk=>h.block k (by omega) (.inl hk)⟩
theorem RecsOwn.frame {ps:List RP}(h:RecsOwn W lo hi v ps)(hb:Frame l2 h2 W W')(hB:hi<=l2\/h2<=lo):RecsOwn W' lo hi v ps:=h.keep (fun k h1 h2 h3=>hb.block k h3 (by omega))
theorem Zld {ps:List RP}{p:RP}(h:ps.Pairwise Zkf)(hn:∀ q∈ps,ZaE W lo hi q)(hp:∀ k,p.2.ownBlock=some k->hi<=k):(ps++[p]).Pairwise Zkf:=by
 rw [YAP];refine⟨h,by simp,?_⟩;intro a ha b hb;have:b=p:=by simpa using hb
 subst this;intro k hk he;have h1:=(hn a ha).2 k hk;have h2:=hp k he;omega
def tot (ps:List RP):Nat:=(ps.map (fun p=>1+p.1.near.length)).sum
theorem Zcl (p:RP)(ps:List RP):tot (p::ps)=1+p.1.near.length+tot ps:=by simp [tot]
theorem ZcY (a b:List RP):tot (a++b)=tot a+tot b:=by simp [tot]
theorem ZcB (ps:List RP):ps.length<=tot ps:=by
 induction ps with
 | nil=>simp [tot]
 | cons p ps ih=>rw [Zcl,YAd];omega
theorem ZjA {ps:List RP}{p:RP}(h:p∈ps):p.1.near.length<=tot ps:=by
 induction ps with
 | nil=>simp at h
 | cons q ps ih=>
  rw [Zcl];rcases YAR.1 h with rfl | h1
  ·omega
  ·have:=ih h1;omega
theorem ZoG {ps qs:List RP}(h:ps.map (·.1)=qs.map (·.1)):tot ps=tot qs:=by
 have e:∀ l:List RP,tot l=((l.map (·.1)).map (fun x=>1+x.near.length)).sum:=fun l=>by simp [tot,YAa,Function.comp_def]
 rw [e,e,h]
theorem map_take {ps:List RP}{p:RP}(h:ps[k]? = some p):(ps.take (k+1)).map (·.1)=(ps.take k).map (·.1)++[p.1]:=by
 obtain⟨hk,e⟩:=YAD.1 h;rw [YAJ hk,YAW,e];rfl

def Za7 (x:RecD):Bool:=inB x.owner 1 6&&inB x.seq 1 100000 &&
 (if x.kind=1 then inB x.area 0 2&&x.key==0&&Zb2 x.owner x.near&&x.cost==0 && !x.far
  else if x.kind=2 then inB x.area 0 2&&inB x.key 1 6&&x.near.length==0&&inB x.cost 0 60000 && !x.far
  else if x.kind=3 then x.area==9&&inB x.key 1 9&&x.near.length==0&&(inB x.cost 1 1000||x.cost==60000)
  else false)
theorem ZkZ (v1:Value)(x:RecD)(w:World)(hl:x.near.length<=1048576)(hv:ZaJ w v1 x.near w.heap.size):
  Calls Tryz.prog 111 #[.agg (recC x v1)] w fun e w'=>e=.returned (.bool (Za7 x))/\Below w.heap.size w w':=by
 obtain⟨p1,c1,rfl⟩:=hv.shape;have HN:=hide (fun W (h:Below w.heap.size w W)=>Zmg (.slice p1 x.near.length c1) x W hl (hv.then h));obtain⟨R,hR⟩:∃ R,R=Za7 x:=⟨_,rfl⟩;rw [<-hR];obtain⟨qn,hqn⟩:∃ q,q=Zb2 x.owner x.near:=⟨_,rfl⟩;rw [<-hqn] at HN;unfold Za7 at hR;rw [<-hqn] at hR;obtain⟨area,kind,owner,key,seq,ns,cost,far⟩:=x;unfold recC at HN |-;simp only [] at HN hR hl hv |-
 have hnew:=YAE w (.cells #[.int .i64 area,.int .i64 kind,.int .i64 owner,.int .i64 key,.int .i64 seq,.slice p1 ns.length c1,.int .i64 cost,.bool far] 132);have B0:Below w.heap.size w (w.alloc (.cells #[.int .i64 area,.int .i64 kind,.int .i64 owner,.int .i64 key,.int .i64 seq,.slice p1 ns.length c1,.int .i64 cost,.bool far] 132)):=(YAB _ _).alloc (YA _) _;have H1:=hide (Zbs owner 1 6);have H2:=hide (Zbs seq 1 100000);obtain⟨q1,hq1⟩:∃ q,q=inB owner 1 6:=⟨_,rfl⟩;obtain⟨q2,hq2⟩:∃ q,q=inB seq 1 100000:=⟨_,rfl⟩;rw [<-hq1] at H1 hR;rw [<-hq2] at H2 hR;have NEW:=hide hnew;have HR:=hide hR;have HL:=hide hl;clear hnew hR hq1 hq2 hqn hv hl
 go_enter Tryz.func111,Tryz.ntmps111
 go_wp2_with fail
 refine (H1.out _).mono ?_;rintro e w1 ⟨rfl,rfl⟩;cases q1
 ·go_wp2;go_ret;exact⟨Zao (by rw [HR.out];rfl),B0⟩
 go_wp2_with fail
 refine (H2.out _).mono ?_;rintro e w1 ⟨rfl,rfl⟩;cases q2
 ·go_wp2;go_ret;exact⟨Zao (by rw [HR.out];rfl),B0⟩
 clear H1 H2;by_cases hk1:kind=1
 ·subst hk1;have HR2:=hide (show R=(inB area 0 2&&key==0&&qn&&cost==0 && !far) by have:=HR.out;simpa using this);have H3:=hide (Zbs area 0 2);obtain⟨q3,hq3⟩:∃ q,q=inB area 0 2:=⟨_,rfl⟩;rw [<-hq3] at H3 HR2;clear hq3 HR
  go_wp2_with fail
  refine (H3.out _).mono ?_;rintro e w1 ⟨rfl,rfl⟩;cases q3
  ·go_wp2;go_ret;exact⟨Zao (by rw [HR2.out];rfl),B0⟩
  by_cases hkey:key=0
  case neg=>
   have hd:(key==0)=false:=by simpa using hkey
   rw [hd] at HR2;go_wp2;go_ret;exact⟨Zao (by rw [HR2.out];rfl),B0⟩
  subst hkey
  go_wp2_with fail
  refine (HN.out _ B0).mono ?_;rintro e w2 ⟨rfl,b2⟩;have hx2:w2.heap[w.heap.size]? = some (.cells #[.int .i64 area,.int .i64 1,.int .i64 owner,.int .i64 0,.int .i64 seq,.slice p1 ns.length c1,.int .i64 cost,.bool far] 132):=by rw [b2.block _ (by simp)];exact NEW.out
  have f6:=Zaa hx2 6;have f7:=Zaa hx2 7;simp at f6 f7;have B2:=B0.trans (b2.mono B0.size);clear hx2 b2 NEW B0;cases qn
  ·go_wp2;go_ret;exact⟨Zao (by rw [HR2.out];rfl),B2⟩
  by_cases hco:cost=0
  case neg=>
   have hd:(cost==0)=false:=by simpa using hco
   rw [hd] at HR2;go_wp2;go_ret;exact⟨Zao (by rw [HR2.out];rfl),B2⟩
  subst hco;cases far
  ·go_wp2;go_ret;exact⟨Zao (by rw [HR2.out];rfl),B2⟩
  ·go_wp2;go_ret;exact⟨Zao (by rw [HR2.out];rfl),B2⟩
 have k1:(kind==1)=false:=by simpa using hk1
 by_cases hk2:kind=2
 ·subst hk2;have HR2:=hide (show R=(inB area 0 2&&inB key 1 6&&ns.length==0&&inB cost 0 60000 && !far) by have:=HR.out;simpa using this);have H3:=hide (Zbs area 0 2);obtain⟨q3,hq3⟩:∃ q,q=inB area 0 2:=⟨_,rfl⟩;rw [<-hq3] at H3 HR2;have H4:=hide (Zbs key 1 6);obtain⟨q4,hq4⟩:∃ q,q=inB key 1 6:=⟨_,rfl⟩;rw [<-hq4] at H4 HR2;have H5:=hide (Zbs cost 0 60000);obtain⟨q5,hq5⟩:∃ q,q=inB cost 0 60000:=⟨_,rfl⟩;rw [<-hq5] at H5 HR2;clear hq3 hq4 hq5 HR hk1 k1
  go_wp2_with fail
  refine (H3.out _).mono ?_;rintro e w1 ⟨rfl,rfl⟩;cases q3
  ·go_wp2;go_ret;exact⟨Zao (by rw [HR2.out];rfl),B0⟩
  go_wp2_with fail
  refine (H4.out _).mono ?_;rintro e w1 ⟨rfl,rfl⟩;cases q4
  ·go_wp2;go_ret;exact⟨Zao (by rw [HR2.out];rfl),B0⟩
  by_cases hn0:ns.length=0
  case neg=>
   have hd:((ns.length:Int)==0)=false:=by simp;intro h;rw [h] at hn0;exact hn0 rfl
   have hR2:R=false:=by rw [HR2.out,show (ns.length==0)=false by simpa using hn0];rfl
   have HR3:=hide hR2;clear hR2 hn0 HR2;go_wp2;go_ret;exact⟨Zao HR3.out,B0⟩
  have hd:((ns.length:Int)==0)=true:=by simp;exact List.length_eq_zero_iff.1 hn0
  have HR3:=hide (show R=(q5 && !far) by have:=HR2.out;rw [show (ns.length==0)=true by simpa using hn0] at this;simpa using this);clear hn0 HR2
  go_wp2_with fail
  refine (H5.out _).mono ?_;rintro e w1 ⟨rfl,rfl⟩;cases q5
  ·go_wp2;go_ret;exact⟨Zao (by rw [HR3.out];rfl),B0⟩
  cases far
  ·go_wp2;go_ret;exact⟨Zao (by rw [HR3.out];rfl),B0⟩
  ·go_wp2;go_ret;exact⟨Zao (by rw [HR3.out];rfl),B0⟩
 have k2:(kind==2)=false:=by simpa using hk2
 by_cases hk3:kind=3
 ·subst hk3;have HR2:=hide (show R=(area==9&&inB key 1 9&&ns.length==0&&(inB cost 1 1000||cost==60000)) by have:=HR.out;simpa using this);have H4:=hide (Zbs key 1 9);obtain⟨q4,hq4⟩:∃ q,q=inB key 1 9:=⟨_,rfl⟩;rw [<-hq4] at H4 HR2;have H5:=hide (Zbs cost 1 1000);obtain⟨q5,hq5⟩:∃ q,q=inB cost 1 1000:=⟨_,rfl⟩;rw [<-hq5] at H5 HR2;clear hq4 hq5 HR hk1 k1 hk2 k2;by_cases ha:area=9
  case neg=>
   have hd:(area==9)=false:=by simpa using ha
   rw [hd] at HR2;go_wp2;go_ret;exact⟨Zao (by rw [HR2.out];rfl),B0⟩
  subst ha
  go_wp2_with fail
  refine (H4.out _).mono ?_;rintro e w1 ⟨rfl,rfl⟩;cases q4
  ·go_wp2;go_ret;exact⟨Zao (by rw [HR2.out];rfl),B0⟩
  by_cases hn0:ns.length=0
  case neg=>
   have hd:((ns.length:Int)==0)=false:=by simp;intro h;rw [h] at hn0;exact hn0 rfl
   have hR2:R=false:=by rw [HR2.out,show (ns.length==0)=false by simpa using hn0];rfl
   have HR3:=hide hR2;clear hR2 hn0 HR2;go_wp2;go_ret;exact⟨Zao HR3.out,B0⟩
  have hd:((ns.length:Int)==0)=true:=by simp;exact List.length_eq_zero_iff.1 hn0
  have HR3:=hide (show R=(q5||cost==60000) by have:=HR2.out;rw [show (ns.length==0)=true by simpa using hn0] at this;simpa using this);clear hn0 HR2
  go_wp2_with fail
  refine (H5.out _).mono ?_;rintro e w1 ⟨rfl,rfl⟩;cases q5
  ·go_wp2;go_ret;exact⟨Zao (by rw [HR3.out];rfl),B0⟩
  ·go_wp2;go_ret;exact⟨Zao (by rw [HR3.out];rfl),B0⟩
 have k3:(kind==3)=false:=by simpa using hk3
 have hR2:R=false:=by rw [HR.out,if_neg hk1,if_neg hk2,if_neg hk3];rfl
 have HR2:=hide hR2;clear hR2 HR hk1 hk2 hk3;go_wp2;go_ret;exact⟨Zao HR2.out,B0⟩

def lk0:Lk:=⟨0,0,0,0⟩
theorem Tryz.infoLk :(Tryz.prog.info? 99).map (fun i=>(i.zero,i.size,i.bytes))=some (some (lkV lk0),4,32):=by kernel_rfl
def th0:Th:=⟨0,0,0,false⟩
theorem Tryz.infoTh :(Tryz.prog.info? 103).map (fun i=>(i.zero,i.size,i.bytes))=some (some (thV th0),4,32):=by kernel_rfl

def i64B (n:Int):Prop := -9223372036854775808<=n/\n<=9223372036854775807
structure RtWf (x:RtD):Prop where
 to:i64B x.to
 cost:i64B x.cost
 far:i64B x.far
 hops:∀ h∈x.hops,i64B h
def Za9:List Int->List Int->Int
 | [],[]=>0
 | [],_::_ => -1
 | _::_,[]=>1
 | x::xs,y::ys=>if cmpN x y=0 then Za9 xs ys else cmpN x y
theorem ZmQ {x y:Int}(hx:xs[k]? = some x)(hy:ys[k]? = some y):Za9 (xs.drop k) (ys.drop k)=if cmpN x y=0 then Za9 (xs.drop (k+1)) (ys.drop (k+1)) else cmpN x y:=by
 obtain⟨h1,e1⟩:=YAD.1 hx;obtain⟨h2,e2⟩:=YAD.1 hy;rw [YAp h1,YAp h2,e1,e2];rfl
theorem Zkm (h1:k<xs.length)(h2:ys.length<=k):Za9 (xs.drop k) (ys.drop k)=1:=by
 rw [YAp h1,List.drop_of_length_le h2];rfl
theorem ZiZ (h1:xs.length<=k)(h2:k<ys.length):Za9 (xs.drop k) (ys.drop k) = -1:=by
 rw [YAp h2,List.drop_of_length_le h1];rfl
theorem Zkl (h1:xs.length<=k)(h2:ys.length<=k):Za9 (xs.drop k) (ys.drop k)=0:=by
 rw [List.drop_of_length_le h2,List.drop_of_length_le h1];rfl
theorem ZhH (v1 v2:Value)(xs ys:List Int)(w:World)(h1:Zal w v1 xs w.heap.size)(h2:Zal w v2 ys w.heap.size)(hn:xs.length<=1048576):
  Calls Tryz.prog 41 #[v1,v2] w fun e w'=>e=.returned (.int .i64 (Za9 xs ys))/\w=w':=by
 obtain⟨a1,c1,rfl⟩:=h1.shape;obtain⟨a2,c2,rfl⟩:=h2.shape;obtain⟨R,hR⟩:∃ R,R=Za9 xs ys:=⟨_,rfl⟩;rw [<-hR];have HR:=hide (show Za9 (xs.drop 0) (ys.drop 0)=R by rw [hR];simp);have K1:=hide h1;have K2:=hide h2;clear h1 h2 hR
 go_enter Tryz.func41,Tryz.ntmps41
 go_wp2
 go_loop [11] (fun i=>∃ k:Nat,k<=xs.length/\i=.int .i64 k/\Hid (Za9 (xs.drop k) (ys.drop k)=R)) (fun i=>xs.length-(intOf i).toNat)
 case atStart=>exact ⟨0,by omega,rfl,HR⟩
 case round=>
  clear HR;obtain⟨k,hk,rfl,HR⟩:=hrel;by_cases hlt:k<xs.length
  ·obtain ⟨x,hx⟩:∃ x,xs[k]? = some x:=⟨xs[k],YAA hlt⟩;obtain⟨b1,o1,p1,he1,hb1,d1⟩:=Zaw.cell K1.out Zc8 k x hx;obtain⟨rfl,rfl⟩:a1=some ⟨b1,o1,none⟩/\c1=p1:=by cases he1;exact⟨rfl,rfl⟩
   have d1:=d1 0 _ rfl;simp only [Nat.mul_one,Nat.add_zero] at d1;have hki:(0:Int)<=(k:Int):=by omega
   have hkj:(k:Int)<(xs.length:Int):=by omega
   by_cases hly:k<ys.length
   ·obtain ⟨y,hy⟩:∃ y,ys[k]? = some y:=⟨ys[k],YAA hly⟩;obtain⟨b2,o2,p2,he2,hb2,d2⟩:=Zaw.cell K2.out Zc8 k y hy;obtain⟨rfl,rfl⟩:a2=some ⟨b2,o2,none⟩/\c2=p2:=by cases he2;exact⟨rfl,rfl⟩
    have d2:=d2 0 _ rfl;simp only [Nat.mul_one,Nat.add_zero] at d2;have HS:=hide ((ZmQ hx hy).symm.trans HR.out);have hkl:(k:Int)<(ys.length:Int):=by omega
    clear hx hy he1 he2 HR
    go_wp2_with fail
    refine (Zc4 x y _).mono ?_;rintro e w1 ⟨rfl,rfl⟩;obtain⟨c,hc⟩:∃ c,c=cmpN x y:=⟨_,rfl⟩;rw [<-hc] at HS |-;clear hc;by_cases h0:c=0
    ·subst h0;have HS2:=hide (show Za9 (xs.drop (k+1)) (ys.drop (k+1))=R by have:=HS.out;rwa [if_pos rfl] at this);clear HS;go_wp2
     go_round
     case rel=>exact ⟨k+1,by omega,by go_num,HS2⟩
     case measure=>simp [intOf];omega
    ·have HS2:=hide (show c=R by have:=HS.out;rwa [if_neg h0] at this);clear HS;go_wp2;go_ret;exact⟨by rw [HS2.out];rfl,rfl⟩
   ·have hkl:¬(k:Int)<(ys.length:Int):=by omega
    have HS2:=hide ((Zkm hlt (by omega)).symm.trans HR.out);clear hx he1 HR;go_wp2;go_ret;exact⟨by rw [<-HS2.out];rfl,rfl⟩
  ·have hkj:¬(k:Int)<(xs.length:Int):=by omega
   by_cases hly:k<ys.length
   ·have hkl:(xs.length:Int)<(ys.length:Int):=by omega
    have HS2:=hide ((ZiZ (by omega) hly).symm.trans HR.out);clear HR;go_wp2;go_ret;exact⟨by rw [<-HS2.out];rfl,rfl⟩
   ·have hkl:¬(xs.length:Int)<(ys.length:Int):=by omega
    have HS2:=hide ((Zkl (by omega) (by omega)).symm.trans HR.out);clear HR;go_wp2;go_ret;exact⟨by rw [<-HS2.out];rfl,rfl⟩
theorem Tryz.infoRec :(Tryz.prog.info? 132).map (fun i=>(i.zero,i.size,i.bytes))=some (some (.agg (recC Zb3 (.slice none 0 0))),8,80):=by kernel_rfl
def fsts (ps:List RP):List RecD:=ps.map (·.1)
theorem Zcf {ps:List RP}{i:Nat}{p:RP}(h:ps[i]? = some p):(fsts ps)[i]? = some p.1:=by simp [fsts,h]
def Zfl (W:World)(p:Nat)(a b c d:Int):Prop:=(W.cell? ⟨p,0,none⟩=some (.int .i64 a)/\W.cell? ⟨p,1,none⟩=some (.int .i64 b)/\W.cell? ⟨p,2,none⟩=some (.int .i64 c)/\W.cell? ⟨p,3,none⟩=some (.int .i64 d))/\W.frozen? ⟨p,0,none⟩=false/\W.frozen? ⟨p,1,none⟩=false/\W.frozen? ⟨p,2,none⟩=false/\W.frozen? ⟨p,3,none⟩=false
theorem Zfl.lt (h:Zfl W p a b c d):p<W.heap.size:=World.block_lt_of_cell? W _ h.1.1
theorem Zfl.below {w2:World}(h:Zfl W p a b c d)(hb:Below W.heap.size W w2):Zfl w2 p a b c d:=by
 have hp:=h.lt;obtain⟨⟨h0,h1,h2,h3⟩,f0,f1,f2,f3⟩:=h;refine⟨⟨?_,?_,?_,?_⟩,?_,?_,?_,?_⟩
 ·rw [hb.cell (p:=⟨p,0,none⟩) hp];exact h0
 ·rw [hb.cell (p:=⟨p,1,none⟩) hp];exact h1
 ·rw [hb.cell (p:=⟨p,2,none⟩) hp];exact h2
 ·rw [hb.cell (p:=⟨p,3,none⟩) hp];exact h3
 ·rw [hb.frozen (p:=⟨p,0,none⟩) hp];exact f0
 ·rw [hb.frozen (p:=⟨p,1,none⟩) hp];exact f1
 ·rw [hb.frozen (p:=⟨p,2,none⟩) hp];exact f2
 ·rw [hb.frozen (p:=⟨p,3,none⟩) hp];exact f3
theorem Zfl.alloc (h:Zfl W p a b c d)(o:Obj):Zfl (W.alloc o) p a b c d:=h.below ((YAB _ _).alloc (YA _) _)
theorem Zfl.same (h:Zfl W p a b c d)(e:W.heap=W'.heap):Zfl W' p a b c d:=by
 unfold Zfl World.cell? World.frozen? at *;rw [<-e];exact h

abbrev WP:=WayD × Value
def encW (p:WP):List Value:=[.int .i64 p.1.to,.int .i64 p.1.cost,p.2]
def Zce:WayD:=⟨0,0,[]⟩
theorem Zeo (p:WP):(encW p).length=3:=rfl
def ZcJ (W:World)(v:Value)(ps:List WP)(B:Nat):Prop:=Zaw encW 3 W v ps B/\∀ p∈ps,Zal W p.2 p.1.hops B
theorem ZcJ.shape {ps:List WP}(h:ZcJ W v ps B):∃ a cap,v=.slice a ps.length cap:=by
 obtain⟨⟨a,cap,h,_⟩,_⟩:=h;exact⟨a,cap,h⟩
theorem ZcJ.later {ps:List WP}(h:ZcJ W v ps B)(hb:Below C W W')(hBC:B<=C):ZcJ W' v ps B:=
 ⟨Zau.later h.1 hb hBC,fun p hp=>Zau.later (h.2 p hp) hb hBC⟩
theorem ZcJ.more {ps:List WP}(h:ZcJ W v ps B)(hBC:B<=C):ZcJ W v ps C:=
 ⟨Zau.more h.1 hBC,fun p hp=>Zau.more (h.2 p hp) hBC⟩
theorem ZcJ.then {ps:List WP}(h:ZcJ W v ps W.heap.size)(hb:Below W.heap.size W W'):ZcJ W' v ps W'.heap.size:=(h.later hb (YA _)).more hb.size
def Zch (W:World)(lo hi:Nat)(p:WP):Prop:=W.ownsRow lo 3 1 p.2 p.1.hops.length (flat intE p.1.hops)/\∀ k,p.2.ownBlock=some k->k<hi
def ZgA (p q:WP):Prop:=∀ k,p.2.ownBlock=some k->q.2.ownBlock≠some k
structure WaysOwn (W:World) (lo hi:Nat) (v:Value) (ps:List WP):Prop where
 row:W.ownsRow lo 144 3 v ps.length (flat encW ps)
 top:∀ k,v.ownBlock=some k->k<hi
 nears:∀ p∈ps,Zch W lo hi p
 apart:ps.Pairwise ZgA
theorem Zch.keep {p:WP}(h:Zch W lo hi p)(hk:∀ k,lo<=k->k<hi->k<W.heap.size->W'.heap[k]? = W.heap[k]?):Zch W' lo hi p:=
 ⟨Zai h.1 (fun k e=>hk k (h.1.lt k e).1 (h.2 k e) (h.1.lt k e).2),h.2⟩
theorem Zch.wide {p:WP}(h:Zch W lo hi p)(hl:lo'<=lo)(hh:hi<=hi'):Zch W lo' hi' p:=
 ⟨Zaf h.1 hl,fun k e=>YAC (h.2 k e) hh⟩
theorem Zch.at {p:WP}(h:Zch W lo hi p):Zal W p.2 p.1.hops hi:=by
 have h1:=Zan h.1;obtain⟨a,cap,hv,h2⟩:=h1;refine⟨a,cap,hv,?_⟩;rcases h2 with h0 | ⟨b,off,ha,hb1,hx⟩
 ·exact .inl h0
 ·exact .inr ⟨b,off,ha,h.2 b (by rw [hv,ha];rfl),hx⟩
theorem WaysOwn.keep {ps:List WP}(h:WaysOwn W lo hi v ps)(hk:∀ k,lo<=k->k<hi->k<W.heap.size->W'.heap[k]? = W.heap[k]?):WaysOwn W' lo hi v ps where
 row:=Zai h.row (fun k e=>hk k (h.row.lt k e).1 (h.top k e) (h.row.lt k e).2)
 top:=h.top
 nears:=fun p hp=>(h.nears p hp).keep hk
 apart:=h.apart
theorem WaysOwn.below {ps:List WP}(h:WaysOwn W lo hi v ps)(hb:Below B W W')(hB:hi<=B):WaysOwn W' lo hi v ps:=h.keep (fun k _ h2 _=>hb.block k (by omega))
theorem WaysOwn.wide {ps:List WP}(h:WaysOwn W lo hi v ps)(hl:lo'<=lo)(hh:hi<=hi'):WaysOwn W lo' hi' v ps where
 row:=Zaf h.row hl
 top:=fun k e=>YAC (h.top k e) hh
 nears:=fun p hp=>(h.nears p hp).wide hl hh
 apart:=h.apart
theorem WaysOwn.at {ps:List WP}(h:WaysOwn W lo hi v ps):ZcJ W v ps hi:=by
 refine⟨?_,fun p hp=>(h.nears p hp).at⟩;have h1:=Zan h.row;obtain⟨a,cap,hv,h2⟩:=h1;refine⟨a,cap,hv,?_⟩;rcases h2 with h0 | ⟨b,off,ha,hb1,hx⟩
 ·exact .inl h0
 ·exact .inr ⟨b,off,ha,h.top b (by rw [hv,ha];rfl),hx⟩
theorem WaysOwn.frame {ps:List WP}(h:WaysOwn W lo hi v ps)(hb:Frame l2 h2 W W')(hB:hi<=l2\/h2<=lo):WaysOwn W' lo hi v ps:=h.keep (fun k h1 h2 h3=>hb.block k h3 (by omega))
theorem Zki {ps:List WP}{p:WP}(h:ps.Pairwise ZgA)(hn:∀ q∈ps,Zch W lo hi q)(hp:∀ k,p.2.ownBlock=some k->hi<=k):(ps++[p]).Pairwise ZgA:=by
 rw [YAP];refine⟨h,by simp,?_⟩;intro a ha b hb;have:b=p:=by simpa using hb
 subst this;intro k hk he;have h1:=(hn a ha).2 k hk;have h2:=hp k he;omega
def totW (ps:List WP):Nat:=(ps.map (fun p=>1+p.1.hops.length)).sum
theorem Zgo (p:WP)(ps:List WP):totW (p::ps)=1+p.1.hops.length+totW ps:=by simp [totW]
theorem ZhN (ps:List WP):ps.length<=totW ps:=by
 induction ps with
 | nil=>simp [totW]
 | cons p ps ih=>rw [Zgo,YAd];omega
theorem ZnS {ps:List WP}{p:WP}(h:p∈ps):p.1.hops.length<=totW ps:=by
 induction ps with
 | nil=>simp at h
 | cons q ps ih=>
  rw [Zgo];rcases YAR.1 h with rfl | h1
  ·omega
  ·have:=ih h1;omega
theorem ZcJ.cells {ps:List WP}(h:ZcJ W v ps B)(i:Nat)(p:WP)(hp:ps[i]? = some p):
  ∃ b off cap,v=.slice (some ⟨b,off,none⟩) ps.length cap/\b<B/\W.cell? ⟨b,off+i*3,none⟩=some (.int .i64 p.1.to)/\W.cell? ⟨b,off+i*3+1,none⟩=some (.int .i64 p.1.cost)/\W.cell? ⟨b,off+i*3+2,none⟩=some p.2/\Zal W p.2 p.1.hops B:=by
 obtain⟨b,off,cap,hv,hb,hc⟩:=Zaw.cell h.1 Zeo i p hp;exact⟨b,off,cap,hv,hb,hc 0 _ rfl,hc 1 _ rfl,hc 2 _ rfl,h.2 p (YAF hp)⟩
structure NetD where
 n:Int
 ls:List Lk
 ts:List Th
 deriving DecidableEq
def ZmF (W:World)(v:Value)(x:NetD)(B:Nat):Prop:=∃ v1 v2,v=.agg #[.int .i64 x.n,v1,v2]/\ZaX W v1 x.ls B/\Zbq W v2 x.ts B
theorem ZmF.then {x:NetD}(h:ZmF W v x W.heap.size)(hb:Below W.heap.size W W'):ZmF W' v x W'.heap.size:=by
 obtain⟨v1,v2,hv,h1,h2⟩:=h;exact⟨v1,v2,hv,h1.then hb,h2.then hb⟩
theorem ZhZ (ls:List Lk)(v:Int):ZaB ls v=ZbX (fun u=>decide (0<(ZeB ls v u).length)) 0 3:=by
 simp only [ZaB,ZbX,List.filter_cons,List.filter_nil,List.nil_append]
 repeat' split
 all_goals simp_all
theorem Ze4 (n:Value)(v tv:Value)(ls:List Lk)(f:Int)(w:World)(hls:ls.length<=1048576)(hv:ZaX w v ls w.heap.size):
  Calls Tryz.prog 61 #[.agg #[n,v,tv],.int .i64 f] w fun e w'=>∃ x,e=.returned x/\w'.ownsRow w.heap.size 3 1 x (ZaB ls f).length (ZbU (ZaB ls f))/\Below w.heap.size w w':=by
 have HV:=hide hv;clear hv;rw [ZhZ]
 go_enter Tryz.func61,Tryz.ntmps61
 go_wp2
 go_loopw [5,6] (fun x i wr=>∃ k:Nat,k<=3/\i=.int .i64 (0+(k:Int))/\Below w.heap.size w wr/\wr.heap[w.heap.size]? = some (.cells #[n,v,tv] 81)/\wr.ownsRow (w.heap.size+1) 3 1 x (ZbX (fun u=>decide (0<(ZeB ls f u).length)) 0 k).length (ZbU (ZbX (fun u=>decide (0<(ZeB ls f u).length)) 0 k))) (fun _ i _=>4-(intOf i).toNat)
 case atStart=>
  refine⟨0,by omega,rfl,ZaK _ _,?_,?_⟩
  ·rw [YAI _ _ _ (show w.heap.size<(w.alloc (.cells #[n,v,tv] 81)).heap.size by simp),YAE]
  ·have h0:=YAU (base:=w.heap.size+1) (w.alloc (.cells #[n,v,tv] 81)) (#[]:Array Value) 0 (by simp) (by decide) (e:=3) (size:=1) rfl;simpa [ZbX,ZbU] using h0
 case round=>
  obtain⟨k,hk,rfl,hb,hx,hown⟩:=hrel;have c0:wr.cell? ⟨w.heap.size,0,none⟩=some n:=by rw [Zaa hx];rfl
  have c1:wr.cell? ⟨w.heap.size,1,none⟩=some v:=by rw [Zaa hx];rfl
  have c2:wr.cell? ⟨w.heap.size,2,none⟩=some tv:=by rw [Zaa hx];rfl
  have hxl:=Zab hx;have HX:=hide hx;have OW:=hide hown;clear hx hown;by_cases hlt:k<3
  ·go_wp2_with fail
   refine (Zmh n v tv ls f _ wr hls (HV.out.then hb)).mono ?_;rintro e w1 ⟨x1,rfl,hox,b1⟩;obtain⟨a1,cp1,rfl⟩:=Zj4 hox;clear hox;have hown1:=Zad OW.out b1 (YA _);have hx1:w1.heap[w.heap.size]? = some (.cells #[n,v,tv] 81):=by rw [b1.block _ hxl];exact HX.out
   have hb1:Below w.heap.size w w1:=hb.trans (b1.mono hb.size);have hz1:=b1.size;have hpl:=Ze0 (fun u=>decide (0<(ZeB ls f u).length)) 0 k;have HX1:=hide hx1;obtain⟨l2,hl20⟩:∃ l2,l2=ZbX (fun u=>decide (0<(ZeB ls f u).length)) 0 (k+1):=⟨_,rfl⟩;have HL20:=hide hl20;have hps:Hid (l2=ZbX (fun u=>decide (0<(ZeB ls f u).length)) 0 k++(if decide (0<(ZeB ls f (0+(k:Int))).length) then [0+(k:Int)] else [])):=hl20;clear hl20;clear b1 hx1 c0 c1 c2 OW HX;generalize ZbX (fun u=>decide (0<(ZeB ls f u).length)) 0 k=l at hown1 hpl hps;rw [Int.zero_add] at *;generalize (ZeB ls f (k:Int)).length=c at hps |-;by_cases hc:0<(c:Int)
   ·have hc':0<c:=by omega
    have hl2:l2=l++[(k:Int)]:=by rw [hps.out];simp [hc']
    clear hc';have HL2:=hide hl2;clear hl2 hps
    go_wp2_with (first
     | (at_builtin;refine Zc0 _ rfl _ _ 37 rfl (w.heap.size+1) 3 Tryz.underlying37 Tryz.info3 u5 l (k:Int) rfl (hown1.alloc _) ⟨w1.heap.size,0,none⟩ 1 rfl ?_ (by omega) (by simp;omega) ?_))
    ·rw [add_zero',World.cell?_alloc_at _ _ _ _ rfl];rfl
    intro v' w4 l' hl' hown' hgrow;have hb4:Below w.heap.size w w4:=(hb1.alloc (by omega) _).grown hgrow (by simp;omega) (fun k hk=>by have:=(hown1.lt k hk).1;omega);have hx4:w4.heap[w.heap.size]? = some (.cells #[n,v,tv] 81):=by
     rw [hgrow.block _ (by simp;omega) (fun h=>by have:=(hown1.lt _ h.symm).1;omega),YAI _ _ _ (by omega)];exact HX1.out
    have e:l'=l2:=by rw [hl'.out,HL2.out]
    subst e;have OW2:=hide hown';have HX4:=hide hx4;clear hgrow hown' hx4 hown1;go_wp2;go_roundw
    case rel=>exact ⟨k+1,by omega,by go_num,hb4,HX4.out,by rw [<-HL20.out];exact OW2.out⟩
    case measure=>simp [intOf];omega
   ·have hc':¬0<c:=by omega
    have hl2:l2=l:=by rw [hps.out];simp [hc']
    clear hc';subst hl2;have OW2:=hide hown1;clear hown1 hps;go_wp2;go_roundw
    case rel=>exact ⟨k+1,by omega,by go_num,hb1,HX1.out,by rw [<-HL20.out];exact OW2.out⟩
    case measure=>simp [intOf];omega
  ·have hk':k=3:=by omega
   subst hk';go_wp2;go_ret;exact⟨_,rfl,Ziu OW.out (by omega),hb⟩
theorem Zge (n:Value)(v tv:Value)(ls:List Lk)(f:Int)(w:World)(hls:ls.length<=1048576)(hv:ZaX w v ls w.heap.size):
  Calls Tryz.prog 62 #[.agg #[n,v,tv],.int .i64 f] w fun e w'=>e=.returned (.bool (Zfm ls f))/\Below w.heap.size w w':=by
 have HV:=hide hv;clear hv
 go_enter Tryz.func62,Tryz.ntmps62
 go_wp2_with fail
 refine (Ze4 n v tv ls f _ hls (HV.out.then ((YAB _ _).alloc (YA _) _))).mono ?_;rintro e w1 ⟨x,rfl,hox,b1⟩;have hb1:Below w.heap.size w w1:=((YAB w.heap.size w).alloc (YA _) _).trans (b1.mono (by simp));obtain⟨zs,hzs⟩:∃ zs,zs=ZaB ls f:=⟨_,rfl⟩;have hB:Zfm ls f=(decide (1<zs.length)&&(zs.head? == some 0)):=by rw [hzs];rfl
 have HB:=hide hB;rw [<-hzs] at hox;clear hB hzs b1;by_cases h1:1<zs.length
 ·obtain ⟨g,cap,rfl,hg,hl⟩:=ZkN hox (by omega);obtain⟨z,zr,rfl⟩:∃ z zr,zs=z::zr:=by
   cases zs with
   | nil=>simp at h1
   | cons z zr=>exact ⟨z,zr,rfl⟩
  have c0:w1.cell? ⟨g,0,none⟩=some (.int .i64 z):=by rw [hox.cellAt 0 (by omega)];rfl
  have hb:(decide (1<(z::zr).length)&&((z::zr).head? == some 0))=(z==0):=by
   rw [YAi h1];simp
  have HB2:Hid (Zfm ls f=(z==0)):=HB.out.trans hb;generalize (z::zr).length=m at hox h1 hl |-;have h1':(1:Int)<(m:Int):=by omega
  have h0':(0:Int)<(m:Int):=by omega
  clear hox hb HB;go_wp2;go_ret;exact⟨by rw [HB2.out];rfl,hb1⟩
 ·obtain ⟨a,cap,rfl⟩:=Zj4 hox;have hb:(decide (1<zs.length)&&(zs.head? == some 0))=false:=by rw [YAo h1];rfl
  have HB2:Hid (Zfm ls f=false):=HB.out.trans hb;have h1':¬(1:Int)<(zs.length:Int):=by omega
  clear hox hb HB;go_wp2;go_ret;exact⟨by rw [HB2.out];rfl,hb1⟩

abbrev JP:=LnD × Value
def encJ (p:JP):List Value:=[.bool p.1.thing,.int .i64 p.1.to,p.2]
def ZdW:LnD:=⟨false,0,[]⟩
theorem Zb6 (p:JP):(encJ p).length=3:=rfl
def Zb8 (W:World)(v:Value)(ps:List JP)(B:Nat):Prop:=Zaw encJ 3 W v ps B/\∀ p∈ps,Zal W p.2 p.1.hops B
theorem Zb8.shape {ps:List JP}(h:Zb8 W v ps B):∃ a cap,v=.slice a ps.length cap:=by
 obtain⟨⟨a,cap,h,_⟩,_⟩:=h;exact⟨a,cap,h⟩
theorem Zb8.later {ps:List JP}(h:Zb8 W v ps B)(hb:Below C W W')(hBC:B<=C):Zb8 W' v ps B:=
 ⟨Zau.later h.1 hb hBC,fun p hp=>Zau.later (h.2 p hp) hb hBC⟩
theorem Zb8.more {ps:List JP}(h:Zb8 W v ps B)(hBC:B<=C):Zb8 W v ps C:=
 ⟨Zau.more h.1 hBC,fun p hp=>Zau.more (h.2 p hp) hBC⟩
theorem Zb8.then {ps:List JP}(h:Zb8 W v ps W.heap.size)(hb:Below W.heap.size W W'):Zb8 W' v ps W'.heap.size:=(h.later hb (YA _)).more hb.size
def ZaW (W:World)(lo hi:Nat)(p:JP):Prop:=W.ownsRow lo 3 1 p.2 p.1.hops.length (flat intE p.1.hops)/\∀ k,p.2.ownBlock=some k->k<hi
def Zgz (p q:JP):Prop:=∀ k,p.2.ownBlock=some k->q.2.ownBlock≠some k
structure LnsOwn (W:World) (lo hi:Nat) (v:Value) (ps:List JP):Prop where
 row:W.ownsRow lo 39 3 v ps.length (flat encJ ps)
 top:∀ k,v.ownBlock=some k->k<hi
 nears:∀ p∈ps,ZaW W lo hi p
 apart:ps.Pairwise Zgz
theorem ZaW.keep {p:JP}(h:ZaW W lo hi p)(hk:∀ k,lo<=k->k<hi->k<W.heap.size->W'.heap[k]? = W.heap[k]?):ZaW W' lo hi p:=
 ⟨Zai h.1 (fun k e=>hk k (h.1.lt k e).1 (h.2 k e) (h.1.lt k e).2),h.2⟩
theorem ZaW.wide {p:JP}(h:ZaW W lo hi p)(hl:lo'<=lo)(hh:hi<=hi'):ZaW W lo' hi' p:=
 ⟨Zaf h.1 hl,fun k e=>YAC (h.2 k e) hh⟩
theorem ZaW.at {p:JP}(h:ZaW W lo hi p):Zal W p.2 p.1.hops hi:=by
 have h1:=Zan h.1;obtain⟨a,cap,hv,h2⟩:=h1;refine⟨a,cap,hv,?_⟩;rcases h2 with h0 | ⟨b,off,ha,hb1,hx⟩
 ·exact .inl h0
 ·exact .inr ⟨b,off,ha,h.2 b (by rw [hv,ha];rfl),hx⟩
theorem LnsOwn.keep {ps:List JP}(h:LnsOwn W lo hi v ps)(hk:∀ k,lo<=k->k<hi->k<W.heap.size->W'.heap[k]? = W.heap[k]?):LnsOwn W' lo hi v ps where
 row:=Zai h.row (fun k e=>hk k (h.row.lt k e).1 (h.top k e) (h.row.lt k e).2)
 top:=h.top
 nears:=fun p hp=>(h.nears p hp).keep hk
 apart:=h.apart
theorem LnsOwn.below {ps:List JP}(h:LnsOwn W lo hi v ps)(hb:Below B W W')(hB:hi<=B):LnsOwn W' lo hi v ps:=h.keep (fun k _ h2 _=>hb.block k (by omega))
theorem LnsOwn.wide {ps:List JP}(h:LnsOwn W lo hi v ps)(hl:lo'<=lo)(hh:hi<=hi'):LnsOwn W lo' hi' v ps where
 row:=Zaf h.row hl
 top:=fun k e=>YAC (h.top k e) hh
 nears:=fun p hp=>(h.nears p hp).wide hl hh
 apart:=h.apart
theorem LnsOwn.at {ps:List JP}(h:LnsOwn W lo hi v ps):Zb8 W v ps hi:=by
 refine⟨?_,fun p hp=>(h.nears p hp).at⟩;have h1:=Zan h.row;obtain⟨a,cap,hv,h2⟩:=h1;refine⟨a,cap,hv,?_⟩;rcases h2 with h0 | ⟨b,off,ha,hb1,hx⟩
 ·exact .inl h0
 ·exact .inr ⟨b,off,ha,h.top b (by rw [hv,ha];rfl),hx⟩
theorem LnsOwn.frame {ps:List JP}(h:LnsOwn W lo hi v ps)(hb:Frame l2 h2 W W')(hB:hi<=l2\/h2<=lo):LnsOwn W' lo hi v ps:=h.keep (fun k h1 h2 h3=>hb.block k h3 (by omega))
theorem Zkh {ps:List JP}{p:JP}(h:ps.Pairwise Zgz)(hn:∀ q∈ps,ZaW W lo hi q)(hp:∀ k,p.2.ownBlock=some k->hi<=k):(ps++[p]).Pairwise Zgz:=by
 rw [YAP];refine⟨h,by simp,?_⟩;intro a ha b hb;have:b=p:=by simpa using hb
 subst this;intro k hk he;have h1:=(hn a ha).2 k hk;have h2:=hp k he;omega
def totJ (ps:List JP):Nat:=(ps.map (fun p=>1+p.1.hops.length)).sum
theorem Zgm (p:JP)(ps:List JP):totJ (p::ps)=1+p.1.hops.length+totJ ps:=by simp [totJ]
theorem Zbj (ps:List JP):ps.length<=totJ ps:=by
 induction ps with
 | nil=>simp [totJ]
 | cons p ps ih=>rw [Zgm,YAd];omega
theorem ZbO {ps:List JP}{p:JP}(h:p∈ps):p.1.hops.length<=totJ ps:=by
 induction ps with
 | nil=>simp at h
 | cons q ps ih=>
  rw [Zgm];rcases YAR.1 h with rfl | h1
  ·omega
  ·have:=ih h1;omega
theorem ZlU {ps:List JP}{p:JP}(h:ps[k]? = some p):(ps.take (k+1)).map (·.1)=(ps.take k).map (·.1)++[p.1]:=by
 obtain⟨hk,e⟩:=YAD.1 h;rw [YAJ hk,YAW,e];rfl
theorem Zb8.cells {ps:List JP}(h:Zb8 W v ps B)(i:Nat)(p:JP)(hp:ps[i]? = some p):
  ∃ b off cap,v=.slice (some ⟨b,off,none⟩) ps.length cap/\b<B/\W.cell? ⟨b,off+i*3,none⟩=some (.bool p.1.thing)/\W.cell? ⟨b,off+i*3+1,none⟩=some (.int .i64 p.1.to)/\W.cell? ⟨b,off+i*3+2,none⟩=some p.2/\Zal W p.2 p.1.hops B:=by
 obtain⟨b,off,cap,hv,hb,hc⟩:=Zaw.cell h.1 Zb6 i p hp;exact⟨b,off,cap,hv,hb,hc 0 _ rfl,hc 1 _ rfl,hc 2 _ rfl,h.2 p (YAF hp)⟩
end Go.Proofs.YtdhnddfnckgbjaaGreat
