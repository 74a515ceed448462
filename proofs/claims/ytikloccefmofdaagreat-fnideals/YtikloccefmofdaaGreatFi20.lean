/-
  Parts.
-/
import Derived.Test.YtikloccefmofdaaGreatFi19
namespace Go.Proofs.YtikloccefmofdaaGreat
open Go.RowKit

open Classical in
noncomputable def ZbE (xs:List RecD) (area src:Int):List WayD:=if h:∃ ds,ZaX xs area src ds then Classical.choose h else []

theorem ZaX.eq {xs:List RecD}{area src:Int}{ds:List WayD}(h:ZaX xs area src ds):ds=ZbE xs area src:=by
 unfold ZbE;rw [dif_pos ⟨ds,h⟩];exact h.unique (Classical.choose_spec (⟨ds,h⟩:∃ ds,ZaX xs area src ds))

def ZfI (tog:WayD->WayD->WayD)(best:Option WayD)(w:Option WayD):Option WayD:=match w with
 | none=>best
 | some w=>match best with
  | none=>some w
  | some b=>some (tog b w)

def ZaV (ds:List WayD)(to:Int):Option WayD:=ds.find? (fun x=>x.to==to)

end Go.Proofs.YtikloccefmofdaaGreat
namespace Go.Proofs.YtikloccefmofdaaGreat
open Go.RowKit
set_option linter.unusedSimpArgs false
set_option linter.unusedVariables false
set_option maxRecDepth 100000
set_option maxHeartbeats 8000000
variable {a:Act}{K:Act->World->Prop}{Q:Exit->Act->World->Prop}{k lo n t z:Nat}{q:Nat->Nat}{bp:Nat->Option Nat}{wv:Nat->Value}{wd:Nat->WayD}{o:Oper}{P:Program}{u:Value}{W W2:World}
def seq1 (r:RecD):RecD:=if r.seq=0 then { r with seq:=1 } else r
def ZdW (xs ts:List RecD):List RecD:=ts.foldl (fun a r=>putD a (seq1 r)) xs
theorem ZiA {xs ts:List RecD}{r:RecD}(h:ts[k]? = some r):ZdW xs (ts.take (k+1))=putD (ZdW xs (ts.take k)) (seq1 r):=by
 obtain⟨hk,e⟩:=YAD.1 h;unfold ZdW;rw [YAI hk,e,List.foldl_append];rfl
theorem ZpO {ts:List RP}{p:RP}(h:ts[k]? = some p):tot (ts.take (k+1))=tot (ts.take k)+(1+p.1.near.length):=by
 obtain⟨hk,e⟩:=YAD.1 h;rw [YAI hk,ZdJ,e];simp [tot]
theorem ZkL (ts:List RP)(k:Nat):tot (ts.take k)<=tot ts:=by
 have h:=ZdJ (ts.take k) (ts.drop k);rw [YAc] at h;omega
theorem Zru (v v2:Value)(ps ts:List RP)(hi:Nat)(w:World)(hv:RecsIn w hi v ps)(ht:RecsIn w hi v2 ts)(hhi:hi<=w.heap.size)(hn:tot ps+tot ts<=1048576):
  Calls Tryz.prog 59 #[v,v2] w fun e w'=>∃ x qs,e=.returned x/\fsts qs=ZdW (fsts ps) (fsts ts)/\RecsIn w' w'.heap.size x qs/\tot qs<=tot ps+tot ts/\Below w.heap.size w w':=by
 have htl:=Zbj ts;obtain⟨a1,c1,rfl⟩:=Zac hv.row;obtain⟨a2,c2,rfl⟩:=Zac ht.row;have HT:=hide ht;have HV0:=hide (hv.wide hhi);clear hv ht
 go_enter Tryz.func59,Tryz.ntmps59
 go_wp2
 go_loopw [6,5] (fun i o wr=>∃ (k:Nat) (x:Value) (qs:List RP),k<=ts.length/\i=.int .i64 (k:Int)/\o=x/\RecsIn wr wr.heap.size x qs/\Hid (fsts qs=ZdW (fsts ps) ((fsts ts).take k))/\tot qs<=tot ps+tot (ts.take k)/\Below w.heap.size w wr) (fun i _ _=>ts.length-(intOf i).toNat)
 case atStart=>exact ⟨0,_,ps,by omega,rfl,rfl,HV0.out,hide (by simp [ZdW]),by omega,YAC _ _⟩
 case round=>
  obtain⟨k,x,qs,hk,rfl,rfl,hin,HF,htq,hnx⟩:=hrel;clear HV0;obtain⟨xa,xc,rfl⟩:=Zac hin.row;have hsz:=hnx.size;by_cases hlt:k<ts.length
  ·obtain ⟨p,hp⟩:∃ p,ts[k]? = some p:=⟨ts[k],YAA hlt⟩;obtain⟨bb,off,cap',hve,hbb,c0,c1,c2,c3,c4,c5,c6,c7,hnr⟩:=HT.out.at.cells k p hp;cases hve;obtain⟨pa,pc,hpn⟩:=Zat.shape hnr;rw [hpn] at c5;replace c0:=(hnx.cell (YAB hbb hhi)).trans c0;replace c1:=(hnx.cell (YAB hbb hhi)).trans c1;replace c2:=(hnx.cell (YAB hbb hhi)).trans c2;replace c3:=(hnx.cell (YAB hbb hhi)).trans c3;replace c4:=(hnx.cell (YAB hbb hhi)).trans c4;replace c5:=(hnx.cell (YAB hbb hhi)).trans c5;replace c6:=(hnx.cell (YAB hbb hhi)).trans c6;replace c7:=(hnx.cell (YAB hbb hhi)).trans c7;have htk:=ZpO hp;have htl2:=ZkL ts (k+1);have hno0:=HT.out.nears p (YAG hp);have hno1:ZaF wr 0 wr.heap.size p:=(hno0.keep (W':=wr) (fun j _ h2 _=>hnx.block j (by omega))).wide (YA _) (by omega);have hpe:p=(p.1,.slice pa p.1.near.length pc):=by rw [<-hpn]
   have hki:(0:Int)<=(k:Int):=by omega
   have hkj:(k:Int)<(ts.length:Int):=by omega
   by_cases hs0:p.1.seq=0
   ·have hd:(p.1.seq==0)=true:=by simpa using hs0
    have hse:seq1 p.1 = { p.1 with seq:=1 }:=by unfold seq1;rw [if_pos hs0]
    have hno:ZaF wr 0 wr.heap.size ({ p.1 with seq:=1 },.slice pa p.1.near.length pc):=by rw [hpe] at hno1;exact hno1
    clear hs0 hpe hno0 hno1 hnr hpn;have BA:Below wr.heap.size wr (wr.alloc (.cells #[.int .i64 p.1.area,.int .i64 p.1.kind,.int .i64 p.1.owner,.int .i64 p.1.key,.int .i64 1,.slice pa p.1.near.length pc,.int .i64 p.1.cost,.bool p.1.far] 37)):=(YAC _ _).alloc (YA _) _;have hno2:ZaF (wr.alloc (.cells #[.int .i64 p.1.area,.int .i64 p.1.kind,.int .i64 p.1.owner,.int .i64 p.1.key,.int .i64 1,.slice pa p.1.near.length pc,.int .i64 p.1.cost,.bool p.1.far] 37)) 0 (wr.alloc (.cells #[.int .i64 p.1.area,.int .i64 p.1.kind,.int .i64 p.1.owner,.int .i64 p.1.key,.int .i64 1,.slice pa p.1.near.length pc,.int .i64 p.1.cost,.bool p.1.far] 37)).heap.size ({ p.1 with seq:=1 },.slice pa p.1.near.length pc):=(hno.keep (W':=(wr.alloc (.cells #[.int .i64 p.1.area,.int .i64 p.1.kind,.int .i64 p.1.owner,.int .i64 p.1.key,.int .i64 1,.slice pa p.1.near.length pc,.int .i64 p.1.cost,.bool p.1.far] 37))) (fun j _ _ h3=>BA.block j h3)).wide (YA _) BA.size;have HP:=hide (Zjq (.slice xa qs.length xc) qs (wr.alloc (.cells #[.int .i64 p.1.area,.int .i64 p.1.kind,.int .i64 p.1.owner,.int .i64 p.1.key,.int .i64 1,.slice pa p.1.near.length pc,.int .i64 p.1.cost,.bool p.1.far] 37)).heap.size ({ p.1 with seq:=1 },.slice pa p.1.near.length pc) (wr.alloc (.cells #[.int .i64 p.1.area,.int .i64 p.1.kind,.int .i64 p.1.owner,.int .i64 p.1.key,.int .i64 1,.slice pa p.1.near.length pc,.int .i64 p.1.cost,.bool p.1.far] 37)) ((hin.below BA (YA _)).wide BA.size) (YA _) (by omega) hno2);have HF2:=hide (show fsts (putL qs ({ p.1 with seq:=1 },.slice pa p.1.near.length pc))=ZdW (fsts ps) ((fsts ts).take (k+1)) by
     rw [ZfT,ZiA (Zbf hp), <-HF.out,hse])
    have htp:=ZjC qs ({ p.1 with seq:=1 },.slice pa p.1.near.length pc);have HB:=hide (hnx.trans (BA.mono hnx.size));have HTK:=hide htk;have htp2:tot (putL qs ({ p.1 with seq:=1 },.slice pa p.1.near.length pc))<=tot qs+(1+p.1.near.length):=htp;obtain⟨Q,hQ⟩:∃ Q,Q=putL qs ({ p.1 with seq:=1 },.slice pa p.1.near.length pc):=⟨_,rfl⟩;rw [<-hQ] at HP HF2 htp2;unfold recC at HP;simp only [] at HP;clear hno hno2 hin hse htp hp HF htk hQ
    go_wp2_with fail
    refine HP.out.mono ?_;rintro e w2 ⟨y,rfl,hy,b2⟩;obtain⟨ya,yc,rfl⟩:=Zac hy.row;have HY:=hide hy;have HB2:=hide (HB.out.trans (b2.mono HB.out.size));clear hy b2 HP HB BA;go_wp2;go_roundw
    case rel=>exact ⟨k+1,_,Q,by omega,by go_num,rfl,HY.out,HF2,by have:=HTK.out;omega,HB2.out⟩
    case measure=>simp [intOf];omega
   ·have hd:(p.1.seq==0)=false:=by simpa using hs0
    have hse:seq1 p.1=p.1:=by unfold seq1;rw [if_neg hs0]
    have hno:ZaF wr 0 wr.heap.size (p.1,.slice pa p.1.near.length pc):=by rw [hpe] at hno1;exact hno1
    clear hs0 hpe hno0 hno1 hnr hpn;have BA:Below wr.heap.size wr (wr.alloc (.cells #[.int .i64 p.1.area,.int .i64 p.1.kind,.int .i64 p.1.owner,.int .i64 p.1.key,.int .i64 p.1.seq,.slice pa p.1.near.length pc,.int .i64 p.1.cost,.bool p.1.far] 37)):=(YAC _ _).alloc (YA _) _;have hno2:ZaF (wr.alloc (.cells #[.int .i64 p.1.area,.int .i64 p.1.kind,.int .i64 p.1.owner,.int .i64 p.1.key,.int .i64 p.1.seq,.slice pa p.1.near.length pc,.int .i64 p.1.cost,.bool p.1.far] 37)) 0 (wr.alloc (.cells #[.int .i64 p.1.area,.int .i64 p.1.kind,.int .i64 p.1.owner,.int .i64 p.1.key,.int .i64 p.1.seq,.slice pa p.1.near.length pc,.int .i64 p.1.cost,.bool p.1.far] 37)).heap.size (p.1,.slice pa p.1.near.length pc):=(hno.keep (W':=(wr.alloc (.cells #[.int .i64 p.1.area,.int .i64 p.1.kind,.int .i64 p.1.owner,.int .i64 p.1.key,.int .i64 p.1.seq,.slice pa p.1.near.length pc,.int .i64 p.1.cost,.bool p.1.far] 37))) (fun j _ _ h3=>BA.block j h3)).wide (YA _) BA.size;have HP:=hide (Zjq (.slice xa qs.length xc) qs (wr.alloc (.cells #[.int .i64 p.1.area,.int .i64 p.1.kind,.int .i64 p.1.owner,.int .i64 p.1.key,.int .i64 p.1.seq,.slice pa p.1.near.length pc,.int .i64 p.1.cost,.bool p.1.far] 37)).heap.size (p.1,.slice pa p.1.near.length pc) (wr.alloc (.cells #[.int .i64 p.1.area,.int .i64 p.1.kind,.int .i64 p.1.owner,.int .i64 p.1.key,.int .i64 p.1.seq,.slice pa p.1.near.length pc,.int .i64 p.1.cost,.bool p.1.far] 37)) ((hin.below BA (YA _)).wide BA.size) (YA _) (by omega) hno2);have HF2:=hide (show fsts (putL qs (p.1,.slice pa p.1.near.length pc))=ZdW (fsts ps) ((fsts ts).take (k+1)) by
     rw [ZfT,ZiA (Zbf hp), <-HF.out,hse])
    have htp:=ZjC qs (p.1,.slice pa p.1.near.length pc);have HB:=hide (hnx.trans (BA.mono hnx.size));have HTK:=hide htk;have htp2:tot (putL qs (p.1,.slice pa p.1.near.length pc))<=tot qs+(1+p.1.near.length):=htp;obtain⟨Q,hQ⟩:∃ Q,Q=putL qs (p.1,.slice pa p.1.near.length pc):=⟨_,rfl⟩;rw [<-hQ] at HP HF2 htp2;unfold recC at HP;simp only [] at HP;clear hno hno2 hin hse htp hp HF htk hQ
    go_wp2_with fail
    refine HP.out.mono ?_;rintro e w2 ⟨y,rfl,hy,b2⟩;obtain⟨ya,yc,rfl⟩:=Zac hy.row;have HY:=hide hy;have HB2:=hide (HB.out.trans (b2.mono HB.out.size));clear hy b2 HP HB BA;go_wp2;go_roundw
    case rel=>exact ⟨k+1,_,Q,by omega,by go_num,rfl,HY.out,HF2,by have:=HTK.out;omega,HB2.out⟩
    case measure=>simp [intOf];omega
  ·have hkn:¬(k:Int)<(ts.length:Int):=by omega
   have HE:=hide (show fsts qs=ZdW (fsts ps) (fsts ts) by have h:=HF.out;rw [YAL (by simp [fsts];omega)] at h;exact h);have HI:=hide hin;have hq:tot qs<=tot ps+tot ts:=by have:=ZkL ts k;omega
   clear hin HF;go_wp2;go_ret
   first
    | exact ⟨_,qs,rfl,HE.out,HI.out,hq,hnx⟩
    | exact ⟨_,rfl,qs,HE.out,HI.out,hq,hnx⟩
theorem ZdK (W:World)(o:Obj)(k:Nat)(hk:k<W.heap.size):(W.alloc o).heap[k]? = W.heap[k]? := YAH _ _ _ hk
theorem Zf1 {w:World}(s x:Operand)(t:TypeId)
  (ho:o.op=.call { callee:=.builtin .append,args:=#[s,x],argTypes:=#[t,t] })
  (base:Nat) (e:TypeId) (i:TypeInfo) (size:Nat) (ht:P.underlying t=some (.slice e)) (hi:P.info? e=some i)
  (v:Value) (n:Nat) (xs:List Value) (hs:a.eval s=v) (hown:w.ownsRow base e size v n xs) (hx:a.eval x=.slice none 0 0)
  (h:K (a.put o.dst v) w):o.wp P a w K Q:=by
 have hrun:=run_append_owned_none (P:=P) (w:=w) base t o.type e i size ht hi v n xs hown;unfold Oper.wp;simp [execOp,ho,resolve,invoke,builtin,hs,hx,hrun,Result.andThen];exact h
theorem ZhT {α:Type}{enc:α->List Value}{sz bytes:Nat}(hlen:∀ l:List α,(flat enc l).length=l.length*sz)(hpos:0<sz)(hone:∀ a,∀ u∈enc a,u.oneCell'=true)(hbb:bytes<=100)(w:World)(s x:Operand)(t:TypeId)
  (ho:o.op=.call { callee:=.builtin .append,args:=#[s,x],argTypes:=#[t,t] }) (base:Nat) (e:TypeId) (ht:P.underlying t=some (.slice e)) (zv:Value) (hzv:zv.cells.size=sz)
  (hinfo:(P.info? e).map (fun i=>(i.zero,i.size,i.bytes))=some (some zv,sz,bytes))
  (v:Value) (l:List α) (hs:a.eval s=v) (hown:w.ownsRow base e sz v l.length (flat enc l))
  (base2:Nat) (v2:Value) (l2:List α) (hx:a.eval x=v2) (hown2:w.ownsRow base2 e sz v2 l2.length (flat enc l2))
  (hl:l.length+l2.length<=1000000000) (hbase:base<=w.heap.size)
  (h:∀ v' w',w'.ownsRow base e sz v' (l++l2).length (flat enc (l++l2))->w.grownBy w' v.ownBlock->K (a.put o.dst v') w'):o.wp P a w K Q:=by
 obtain⟨i0,hi,hz0,hz1,hz2⟩:=info_parts hinfo;rcases hown2.2 with ⟨e1,e2⟩ | ⟨g,cap,cur,e1,_⟩
 ·have e3:l2=[]:=YAr e2;subst e3;refine Zf1 s x t ho base e i0 sz ht hi v l.length (flat enc l) hs hown (hx.trans e1) ?_;exact h v w (by simpa using hown) (Zcq w _)
 ·refine wp_append_own w s x t ho base e i0 zv sz bytes ht hi hz0 hz1 hz2 hzv hpos v l.length (flat enc l) hs hown ⟨g,0,none⟩ l2.length cap (flat enc l2) (hx.trans e1) (hlen l2) (hown2.cells (by rw [e1];rfl)) ?_ (by unfold maxLen;omega) ?_ hbase ?_
  ·intro u hu;simp only [flat,YAp] at hu;obtain⟨b,_,hb⟩:=hu;exact hone b u hb
  ·have:(l.length+l2.length)*bytes<=1000000000*100:=Nat.mul_le_mul hl hbb;omega
  ·intro v' w' h1 h2 _;have e1:flat enc l++flat enc l2=flat enc (l++l2):=by rw [ZaC]
   rw [e1] at h1;exact h v' w' (by simpa using h1) h2
theorem Zgn {α:Type}{enc:α->List Value}{sz bytes:Nat}(hlen:∀ a,(enc a).length=sz)(hpos:0<sz)(y0:α)(hone:∀ u∈enc y0,u.oneCell'=true)(hbb:bytes<=100)(w:World)(s x:Operand)(t:TypeId)
  (ho:o.op=.call { callee:=.builtin .append,args:=#[s,x],argTypes:=#[t,t] }) (base:Nat) (e:TypeId) (ht:P.underlying t=some (.slice e)) (zv:Value) (hzv:zv.cells.size=sz)
  (hinfo:(P.info? e).map (fun i=>(i.zero,i.size,i.bytes))=some (some zv,sz,bytes))
  (v:Value) (l:List α) (hs:a.eval s=v) (hown:w.ownsRow base e sz v l.length (flat enc l))
  (ad:Addr) (c:Nat) (hx:a.eval x=.slice (some ad) 1 c) (hnews:∀ j u,(enc y0)[j]? = some u->w.cell? (ad.add j)=some u)
  (hl:l.length+1<=1000000000) (hbase:base<=w.heap.size)
  (h:∀ v' w' l',Hid (l'=l++[y0])->w'.ownsRow base e sz v' l'.length (flat enc l')->w.grownBy w' v.ownBlock->K (a.put o.dst v') w'):Oper.wp P o a w K Q:=by
 obtain⟨i0,hi,hz0,hz1,hz2⟩:=info_parts hinfo;refine wp_append_own w s x t ho base e i0 zv sz bytes ht hi hz0 hz1 hz2 hzv hpos v l.length (flat enc l) hs hown ad 1 c (enc y0) hx (by rw [hlen];omega) hnews (hone) (by unfold maxLen;omega) ?_ hbase ?_
 ·have:(l.length+1)*bytes<=1000000000*100:=Nat.mul_le_mul hl hbb;omega
 ·intro v' w' h1 h2 _;have e1:flat enc l++enc y0=flat enc (l++[y0]):=by rw [ZaC];simp [flat]
  rw [e1] at h1;exact h v' w' (l++[y0]) rfl (by simpa using h1) h2
def wOps:Array Oper:=#[{ dst:=some 181,op:=Go.Op.move (Go.Operand.tmp 7),type:=102,pos := "l06_way.go:102",after:=#[],guard:=none }, { dst:=some 182,op:=Go.Op.move (Go.Operand.tmp 22),type:=3,pos := "l06_way.go:102",after:=#[],guard:=none }, { dst:=some 183,op:=Go.Op.move (Go.Operand.tmp 11),type:=40,pos := "l06_way.go:102",after:=#[],guard:=none }, { dst:=some 184,op:=Go.Op.move (Go.Operand.tmp 22),type:=3,pos := "l06_way.go:102",after:=#[],guard:=none }, { dst:=some 185,op:=Go.Op.indexAddr 40 (Go.Operand.tmp 183) (Go.Operand.tmp 184),type:=0,pos := "l06_way.go:102",after:=#[{ on:=2,ground:=Go.Ground.data }, { on:=3,ground:=Go.Ground.data }],guard:=none }, { dst:=some 186,op:=Go.Op.load 3 (Go.Operand.tmp 185),type:=3,pos := "l06_way.go:102",after:=#[{ on:=4,ground:=Go.Ground.data }],guard:=none }, { dst:=some 187,op:=Go.Op.buildSlice 40 0 #[],type:=40,pos := "l06_way.go:102",after:=#[],guard:=none }, { dst:=some 188,op:=Go.Op.move (Go.Operand.tmp 12),type:=169,pos := "l06_way.go:102",after:=#[],guard:=none }, { dst:=some 189,op:=Go.Op.move (Go.Operand.tmp 22),type:=3,pos := "l06_way.go:102",after:=#[],guard:=none }, { dst:=some 190,op:=Go.Op.indexAddr 169 (Go.Operand.tmp 188) (Go.Operand.tmp 189),type:=0,pos := "l06_way.go:102",after:=#[{ on:=7,ground:=Go.Ground.data }, { on:=8,ground:=Go.Ground.data }],guard:=none }, { dst:=some 191,op:=Go.Op.load 40 (Go.Operand.tmp 190),type:=40,pos := "l06_way.go:102",after:=#[{ on:=9,ground:=Go.Ground.data }],guard:=none }, { dst:=some 192,op:=Go.Op.call { callee:=Go.Callee.builtin Go.Builtin.append,args:=#[Go.Operand.tmp 187,Go.Operand.tmp 191],argTypes:=#[40,40] },type:=40,pos := "l06_way.go:102",after:=#[{ on:=6,ground:=Go.Ground.data }, { on:=10,ground:=Go.Ground.data }],guard:=none }, { dst:=some 193,op:=Go.Op.build 108 #[(0,Go.Operand.tmp 182),(1,Go.Operand.tmp 186),(2,Go.Operand.tmp 192)],type:=108,pos := "l06_way.go:102",after:=#[{ on:=1,ground:=Go.Ground.data }, { on:=5,ground:=Go.Ground.data }, { on:=11,ground:=Go.Ground.data }],guard:=none }, { dst:=some 194,op:=Go.Op.buildSlice 102 1 #[(0,Go.Operand.tmp 193)],type:=102,pos := "l06_way.go:102",after:=#[{ on:=12,ground:=Go.Ground.data }],guard:=none }, { dst:=some 195,op:=Go.Op.call { callee:=Go.Callee.builtin Go.Builtin.append,args:=#[Go.Operand.tmp 181,Go.Operand.tmp 194],argTypes:=#[102,102] },type:=102,pos := "l06_way.go:102",after:=#[{ on:=0,ground:=Go.Ground.data }, { on:=13,ground:=Go.Ground.data }, { on:=11,ground:=Go.Ground.chain }],guard:=none }, { dst:=some 7,op:=Go.Op.assign (Go.Operand.tmp 195),type:=102,pos := "l06_way.go:102",after:=#[{ on:=14,ground:=Go.Ground.data }, { on:=14,ground:=Go.Ground.chain }, { on:=0,ground:=Go.Ground.phase }, { on:=1,ground:=Go.Ground.phase }, { on:=2,ground:=Go.Ground.phase }, { on:=3,ground:=Go.Ground.phase }, { on:=4,ground:=Go.Ground.phase }, { on:=5,ground:=Go.Ground.phase }, { on:=6,ground:=Go.Ground.phase }, { on:=7,ground:=Go.Ground.phase }, { on:=8,ground:=Go.Ground.phase }, { on:=9,ground:=Go.Ground.phase }, { on:=10,ground:=Go.Ground.phase }, { on:=11,ground:=Go.Ground.phase }, { on:=12,ground:=Go.Ground.phase }, { on:=13,ground:=Go.Ground.phase }, { on:=14,ground:=Go.Ground.phase }],guard:=none }]
theorem Zsr (t0 t1 t2 t3 t4 t5 t6 t8 t9 t10 t13 t14 t15 t16 t17 t18 t19 t20 t21 t23 t24 t25 t26 t27 t28 t29 t30 t31 t32 t33 t34 t35 t36 t37 t38 t39 t40 t41 t42 t43 t44 t45 t46 t47 t48 t49 t50 t51 t52 t53 t54 t55 t56 t57 t58 t59 t60 t61 t62 t63 t64 t65 t66 t67 t68 t69 t70 t71 t72 t73 t74 t75 t76 t77 t78 t79 t80 t81 t82 t83 t84 t85 t86 t87 t88 t89 t90 t91 t92 t93 t94 t95 t96 t97 t98 t99 t100 t101 t102 t103 t104 t105 t106 t107 t108 t109 t110 t111 t112 t113 t114 t115 t116 t117 t118 t119 t120 t121 t122 t123 t124 t125 t126 t127 t128 t129 t130 t131 t132 t133 t134 t135 t136 t137 t138 t139 t140 t141 t142 t143 t144 t145 t146 t147 t148 t149 t150 t151 t152 t153 t154 t155 t156 t157 t158 t159 t160 t161 t162 t163 t164 t165 t166 t167 t168 t169 t170 t171 t172 t173 t174 t175 t176 t177 t178 t179 t180 t181 t182 t183 t184 t185 t186 t187 t188 t189 t190 t191 t192 t193 t194 t195 t196:Value)(W0:World)(lo b v:Nat)(cv:Int)(hl:List Int)(pv:Option Addr)(qv:Nat)(ua:Option Addr)(uc:Nat)(qs:List WP)(cb ch:Array Value)(Q:Exit->Act->World->Prop)(ops:Array Oper)(hops:Hid (ops=wOps))(hpan:∀ c a1 a2 w,Q (.panic c) a1 w->Q (.panic c) a2 w)
  (hv:v<=6) (hll:hl.length<=6) (hql:qs.length<=6) (hlo:lo<=W0.heap.size)
  (hb:W0.heap[b]? = some (.cells cb 3)) (hh:W0.heap[b+1]? = some (.cells ch 40)) (h1:W0.cell? ⟨b,v,none⟩=some (.int .i64 cv)) (h2:W0.cell? ⟨b+1,v,none⟩=some (.slice pv hl.length qv))
  (hRV:W0.ownsRow 0 3 1 (.slice pv hl.length qv) hl.length (flat intE hl)) (hWO:WaysOwn W0 lo W0.heap.size (.slice ua qs.length uc) qs)
  (hend:∀ (W4:World) (xa:Option Addr) (xc:Nat) (na:Option Addr) (nc N:Nat),WaysOwn W4 lo W4.heap.size (.slice xa (qs.length+1) xc) (qs++[(⟨(v:Int),cv,hl⟩,.slice na hl.length nc)])->(∀ k,k<W0.heap.size->some k≠(Value.slice ua qs.length uc).ownBlock->W4.heap[k]? = W0.heap[k]?)->Below lo W0 W4->Q .normal { tmps:=#[t0,t1,t2,t3,t4,t5,t6,.slice xa (qs.length+1) xc,t8,t9,t10,.slice (some ⟨b,0,none⟩) 7 7,.slice (some ⟨b+1,0,none⟩) 7 7,t13,t14,t15,t16,t17,t18,t19,t20,t21,.int .i64 (v:Int),t23,t24,t25,t26,t27,t28,t29,t30,t31,t32,t33,t34,t35,t36,t37,t38,t39,t40,t41,t42,t43,t44,t45,t46,t47,t48,t49,t50,t51,t52,t53,t54,t55,t56,t57,t58,t59,t60,t61,t62,t63,t64,t65,t66,t67,t68,t69,t70,t71,t72,t73,t74,t75,t76,t77,t78,t79,t80,t81,t82,t83,t84,t85,t86,t87,t88,t89,t90,t91,t92,t93,t94,t95,t96,t97,t98,t99,t100,t101,t102,t103,t104,t105,t106,t107,t108,t109,t110,t111,t112,t113,t114,t115,t116,t117,t118,t119,t120,t121,t122,t123,t124,t125,t126,t127,t128,t129,t130,t131,t132,t133,t134,t135,t136,t137,t138,t139,t140,t141,t142,t143,t144,t145,t146,t147,t148,t149,t150,t151,t152,t153,t154,t155,t156,t157,t158,t159,t160,t161,t162,t163,t164,t165,t166,t167,t168,t169,t170,t171,t172,t173,t174,t175,t176,t177,t178,t179,t180,.slice ua qs.length uc,.int .i64 (v:Int),.slice (some ⟨b,0,none⟩) 7 7,.int .i64 (v:Int),.pointer (some ⟨b,v,none⟩),.int .i64 cv,.slice (some ⟨W0.heap.size,0,none⟩) 0 0,.slice (some ⟨b+1,0,none⟩) 7 7,.int .i64 (v:Int),.pointer (some ⟨b+1,v,none⟩),.slice pv hl.length qv,.slice na hl.length nc,.agg #[.int .i64 (v:Int),.int .i64 cv,.slice na hl.length nc],.slice (some ⟨N,0,none⟩) 1 1,.slice xa (qs.length+1) xc,t196],defers:=[] } W4):
  wpAnyH Tryz.prog .any ops Q (fun W=>W.cell? ⟨b,v,none⟩=some (.int .i64 cv)/\W.cell? ⟨b+1,v,none⟩=some (.slice pv hl.length qv)) 16 (Array.replicate 16 false) { tmps:=#[t0,t1,t2,t3,t4,t5,t6,.slice ua qs.length uc,t8,t9,t10,.slice (some ⟨b,0,none⟩) 7 7,.slice (some ⟨b+1,0,none⟩) 7 7,t13,t14,t15,t16,t17,t18,t19,t20,t21,.int .i64 (v:Int),t23,t24,t25,t26,t27,t28,t29,t30,t31,t32,t33,t34,t35,t36,t37,t38,t39,t40,t41,t42,t43,t44,t45,t46,t47,t48,t49,t50,t51,t52,t53,t54,t55,t56,t57,t58,t59,t60,t61,t62,t63,t64,t65,t66,t67,t68,t69,t70,t71,t72,t73,t74,t75,t76,t77,t78,t79,t80,t81,t82,t83,t84,t85,t86,t87,t88,t89,t90,t91,t92,t93,t94,t95,t96,t97,t98,t99,t100,t101,t102,t103,t104,t105,t106,t107,t108,t109,t110,t111,t112,t113,t114,t115,t116,t117,t118,t119,t120,t121,t122,t123,t124,t125,t126,t127,t128,t129,t130,t131,t132,t133,t134,t135,t136,t137,t138,t139,t140,t141,t142,t143,t144,t145,t146,t147,t148,t149,t150,t151,t152,t153,t154,t155,t156,t157,t158,t159,t160,t161,t162,t163,t164,t165,t166,t167,t168,t169,t170,t171,t172,t173,t174,t175,t176,t177,t178,t179,t180,t181,t182,t183,t184,t185,t186,t187,t188,t189,t190,t191,t192,t193,t194,t195,t196],defers:=[] } W0:=by
 have hS0:W0.cell? ⟨b,v,none⟩=some (.int .i64 cv)/\W0.cell? ⟨b+1,v,none⟩=some (.slice pv hl.length qv):=⟨h1,h2⟩;have hS1:∀ W:World,(∀ k,k<W0.heap.size->W.heap[k]? = W0.heap[k]?)->W.cell? ⟨b,v,none⟩=some (.int .i64 cv)/\W.cell? ⟨b+1,v,none⟩=some (.slice pv hl.length qv):=fun W hk=>⟨(World.cell?_of_block (hk b (Zab hb))).trans h1,(World.cell?_of_block (hk (b+1) (Zab hh))).trans h2⟩;have hvi:(0:Int)<=(v:Int):=by omega
 have hvj:(v:Int)<7:=by omega
 show wpAnyH Tryz.prog .any ops Q _ 16 #[false,false,false,false,false,false,false,false,false,false,false,false,false,false,false,false] _ W0;refine Zbs 0 ?_ ?_ ?_ (by rw [hops.out];kernel_rfl) ?_ ?_ (by assumption) ?_
 rotate_left 2
 ·rw [hops.out];unfold wOps;simp only [getS];rfl
 ·intro W hW;obtain⟨k1,k2⟩:=hW;go_simp <;> with_reducible rfl
 ·exact fun c _ w h=>hpan c _ _ w h
 try simp only [putS]
 refine Zbs 1 ?_ ?_ ?_ (by rw [hops.out];kernel_rfl) ?_ ?_ (by assumption) ?_
 rotate_left 2
 ·rw [hops.out];unfold wOps;simp only [getS];rfl
 ·intro W hW;obtain⟨k1,k2⟩:=hW;go_simp <;> with_reducible rfl
 ·exact fun c _ w h=>hpan c _ _ w h
 try simp only [putS]
 refine Zbs 2 ?_ ?_ ?_ (by rw [hops.out];kernel_rfl) ?_ ?_ (by assumption) ?_
 rotate_left 2
 ·rw [hops.out];unfold wOps;simp only [getS];rfl
 ·intro W hW;obtain⟨k1,k2⟩:=hW;go_simp <;> with_reducible rfl
 ·exact fun c _ w h=>hpan c _ _ w h
 try simp only [putS]
 refine Zbs 3 ?_ ?_ ?_ (by rw [hops.out];kernel_rfl) ?_ ?_ (by assumption) ?_
 rotate_left 2
 ·rw [hops.out];unfold wOps;simp only [getS];rfl
 ·intro W hW;obtain⟨k1,k2⟩:=hW;go_simp <;> with_reducible rfl
 ·exact fun c _ w h=>hpan c _ _ w h
 try simp only [putS]
 refine Zbs 4 ?_ ?_ ?_ (by rw [hops.out];kernel_rfl) ?_ ?_ (by assumption) ?_
 rotate_left 2
 ·rw [hops.out];unfold wOps;simp only [getS];rfl
 ·intro W hW;obtain⟨k1,k2⟩:=hW;go_simp <;> with_reducible rfl
 ·exact fun c _ w h=>hpan c _ _ w h
 try simp only [putS]
 refine Zbs 5 ?_ ?_ ?_ (by rw [hops.out];kernel_rfl) ?_ ?_ (by assumption) ?_
 rotate_left 2
 ·rw [hops.out];unfold wOps;simp only [getS];rfl
 ·intro W hW;obtain⟨k1,k2⟩:=hW;go_simp <;> with_reducible rfl
 ·exact fun c _ w h=>hpan c _ _ w h
 try simp only [putS]
 refine Zbs 7 ?_ ?_ ?_ (by rw [hops.out];kernel_rfl) ?_ ?_ (by assumption) ?_
 rotate_left 2
 ·rw [hops.out];unfold wOps;simp only [getS];rfl
 ·intro W hW;obtain⟨k1,k2⟩:=hW;go_simp <;> with_reducible rfl
 ·exact fun c _ w h=>hpan c _ _ w h
 try simp only [putS]
 refine Zbs 8 ?_ ?_ ?_ (by rw [hops.out];kernel_rfl) ?_ ?_ (by assumption) ?_
 rotate_left 2
 ·rw [hops.out];unfold wOps;simp only [getS];rfl
 ·intro W hW;obtain⟨k1,k2⟩:=hW;go_simp <;> with_reducible rfl
 ·exact fun c _ w h=>hpan c _ _ w h
 try simp only [putS]
 refine Zbs 9 ?_ ?_ ?_ (by rw [hops.out];kernel_rfl) ?_ ?_ (by assumption) ?_
 rotate_left 2
 ·rw [hops.out];unfold wOps;simp only [getS];rfl
 ·intro W hW;obtain⟨k1,k2⟩:=hW;go_simp <;> with_reducible rfl
 ·exact fun c _ w h=>hpan c _ _ w h
 try simp only [putS]
 refine Zbs 10 ?_ ?_ ?_ (by rw [hops.out];kernel_rfl) ?_ ?_ (by assumption) ?_
 rotate_left 2
 ·rw [hops.out];unfold wOps;simp only [getS];rfl
 ·intro W hW;obtain⟨k1,k2⟩:=hW;go_simp <;> with_reducible rfl
 ·exact fun c _ w h=>hpan c _ _ w h
 try simp only [putS]
 refine Zek 6 (oi:=?_) ?_ (by rw [hops.out];kernel_rfl) ?_ ?_
 rotate_left 1
 ·rw [hops.out];unfold wOps;simp only [getS];rfl
 ·rw [hops.out];kernel_rfl
 intro K hK;go_simp;refine hK.out _ _ (hS1 _ (ZdK W0 _)) (fun hS=>?_);clear hK K
 try simp only [putS]
 refine Zek 11 (oi:=?_) ?_ (by rw [hops.out];kernel_rfl) ?_ ?_
 rotate_left 1
 ·rw [hops.out];unfold wOps;simp only [getS];rfl
 ·rw [hops.out];kernel_rfl
 intro K hK;refine ZhT ZfB (by omega) Zdj (by omega) _ _ _ 40 rfl W0.heap.size 3 Tryz.underlying40 (.int .i64 0) rfl Tryz.info3 (.slice (some ⟨W0.heap.size,0,none⟩) 0 0) [] rfl (Zdm _ _ _ rfl (YA _)) 0 (.slice pv hl.length qv) hl rfl (hRV.alloc _) (by simp;omega) (by simp) ?_;intro x W2 hox hgrow;rw [List.nil_append] at hox;obtain⟨na,nc,rfl⟩:=Zac hox;simp only [Value.ownBlock] at hgrow;have k12:∀ k,k<W0.heap.size->W2.heap[k]? = W0.heap[k]? := fun k hk=>(hgrow.block k (by simp;omega) (by simp;omega)).trans (ZdK W0 _ k hk);have s12:W0.heap.size<W2.heap.size:=by have:=hgrow.size;simp at this;omega
 have B2:Below W0.heap.size W0 W2:=((YAC _ _).alloc (YA _) _).grown hgrow (by simp) (fun k hk=>by simp at hk;omega);refine hK.out _ _ (hS1 _ k12) (fun hS=>?_);clear hK K
 try simp only [putS]
 refine Zbs 12 ?_ ?_ ?_ (by rw [hops.out];kernel_rfl) ?_ ?_ (by assumption) ?_
 rotate_left 2
 ·rw [hops.out];unfold wOps;simp only [getS];rfl
 ·intro W hW;obtain⟨k1,k2⟩:=hW;go_simp <;> with_reducible rfl
 ·exact fun c _ w h=>hpan c _ _ w h
 try simp only [putS]
 refine Zek 13 (oi:=?_) ?_ (by rw [hops.out];kernel_rfl) ?_ ?_
 rotate_left 1
 ·rw [hops.out];unfold wOps;simp only [getS];rfl
 ·rw [hops.out];kernel_rfl
 intro K hK;go_simp;refine hK.out _ _ (hS1 _ (fun k hk=>(ZdK W2 _ k (by omega)).trans (k12 k hk))) (fun hS=>?_);clear hK K
 try simp only [putS]
 refine Zek 14 (oi:=?_) ?_ (by rw [hops.out];kernel_rfl) ?_ ?_
 rotate_left 1
 ·rw [hops.out];unfold wOps;simp only [getS];rfl
 ·rw [hops.out];kernel_rfl
 intro K hK;have rw3:=Zad hWO.row (B2.alloc B2.size (.cells #[.int .i64 (v:Int),.int .i64 cv,.slice na hl.length nc] 108)) (YA _);refine Zgn Zbg (by omega) (⟨(v:Int),cv,hl⟩,.slice na hl.length nc) (Zdh _ _ _ _) (by omega) _ _ _ 102 rfl lo 108 Tryz.underlying102 (.agg (wayC Zbl (.slice none 0 0))) rfl Tryz.infoWay (.slice ua qs.length uc) qs rfl rw3 ⟨W2.heap.size,0,none⟩ 1 rfl (Zan (cs:=encW (⟨(v:Int),cv,hl⟩,.slice na hl.length nc))) (by omega) (by simp;omega) ?_;intro x W4 l' hl' hox2 hgrow2;rw [hl'.out] at hox2;have ow:=hWO.push (p:=(⟨(v:Int),cv,hl⟩,.slice na hl.length nc)) (B2.alloc B2.size _) hlo ⟨hox.alloc (.cells #[.int .i64 (v:Int),.int .i64 cv,.slice na hl.length nc] 108),fun k hk=>by have:=(hox.lt k hk).2;simp;omega⟩ (by simpa using hox2) hgrow2;have k4:∀ k,k<W0.heap.size->some k≠(Value.slice ua qs.length uc).ownBlock->W4.heap[k]? = W0.heap[k]? := fun k hk hne=>(hgrow2.block k (by simp;omega) hne).trans ((ZdK W2 _ k (by omega)).trans (k12 k hk));have B4:Below lo W0 W4:=((B2.alloc B2.size _).mono hlo).grown hgrow2 (by simp;omega) (fun k hk=>(hWO.row.lt k hk).1);rw [YAN,List.length_singleton] at hox2;obtain⟨xa,xc,rfl⟩:=Zac hox2;refine hK.out _ _ ⟨?_,?_⟩ (fun hS=>?_)
 ·rw [World.cell?_of_block (k4 b (Zab hb) (Zar hWO.row hb (by decide)))];exact h1
 ·rw [World.cell?_of_block (k4 (b+1) (Zab hh) (Zar hWO.row hh (by decide)))];exact h2
 clear hK K
 try simp only [putS]
 refine Zbs 15 ?_ ?_ ?_ (by rw [hops.out];kernel_rfl) ?_ ?_ (by assumption) ?_
 rotate_left 2
 ·rw [hops.out];unfold wOps;simp only [getS];rfl
 ·intro W hW;obtain⟨k1,k2⟩:=hW;go_simp <;> with_reducible rfl
 ·exact fun c _ w h=>hpan c _ _ w h
 try simp only [putS]
 refine wpAnyH_done (by rw [hops.out];kernel_rfl) ?_ _;exact hend _ xa xc na nc W2.heap.size ow k4 B4
theorem Zmu {hi:Nat}{r:RP}(h:ZaF W lo hi r):∀ u∈encP r,u.oneCell'=true:=by
 obtain⟨a,c,e⟩:=Zac h.1;obtain⟨x,v⟩:=r;simp only at e;subst e;exact ZbY x a _ c
theorem Zng (lo i vb:Nat)(v:Value)(ps:List RP)(r:RP)(w:World)(hv:RecsOwn w lo w.heap.size v ps)(hlo:lo<=w.heap.size)(hi:i<=ps.length)(hn:ps.length<=1048576)(hvb:w.heap[vb]? = some (.cells (encP r).toArray 37 (0,0)))(hne:some vb≠v.ownBlock)(hr1:∀ u∈encP r,u.oneCell'=true):
  Calls Tryz.prog 79 #[v,.int .i64 (i:Int),.slice (some ⟨vb,0,none⟩) 1 1] w fun e w'=>∃ v',e=.returned v'/\w'.ownsRow lo 37 8 v' (ps.length+1) (flat encP (ps.take i++[r]++ps.drop i))/\ZgV w w' v.ownBlock v':=by
 by_cases he:i=ps.length
 ·rw [he];exact ZrW lo ps.length 1 vb v ps r w rfl rfl hlo hn hv.row hvb hr1
 ·have hone:∀ p∈ps,∃ a k c,p.2=.slice a k c:=fun p hp=>by
   obtain⟨a,c,e⟩:=Zac (hv.nears p hp).1;exact⟨a,_,c,e⟩
  rcases hv.row.2 with ⟨_,h0⟩ | ⟨g,cap,cur,hve,_⟩
  ·omega
  ·subst hve;have hne2:vb≠g:=fun e=>hne (by rw [e];rfl);by_cases hroom:ps.length+1<=cap
   ·exact ZoJ lo g cap ps.length 1 i vb ps r w rfl rfl hv.row (by omega) hroom hvb hne2 hone hr1
   ·exact Zqu lo g cap ps.length 1 i vb ps r w rfl rfl hlo hn hv.row (by omega) (by omega) hvb hone hr1
theorem RecsOwn.ins {i:Nat}{v v':Value}{ps:List RP}{r:RP}(h:RecsOwn W lo W.heap.size v ps)(hr:ZaF W lo W.heap.size r)(hap:∀ p∈ps,ZeH p r)(hi:i<=ps.length)
  (row:W2.ownsRow lo 37 8 v' (ps.length+1) (flat encP (ps.take i++[r]++ps.drop i))) (hg:W.grownBy W2 v.ownBlock):RecsOwn W2 lo W2.heap.size v' (ps.take i++[r]++ps.drop i) where
 row:=by rw [Zhg ps r i hi];exact row
 top:=fun k hk=>(row.lt k hk).2
 nears:=by
  intro q hq;refine Zid h hg ?_;rcases YAF.1 hq with h1 | h1
  ·rcases YAF.1 h1 with h2 | h2
   ·exact h.nears q (YAj h2)
   ·have:q=r:=by simpa using h2
    subst this;exact hr
  ·exact h.nears q (List.mem_of_mem_drop h1)
 apart:=by
  have hp:=h.apart;rw [<-YAc i ps,YAM] at hp;rw [YAY,YAM];refine⟨hp.1,?_,?_⟩
  ·rw [YAM];refine⟨by simp,hp.2.1,?_⟩;intro a ha b hb;have:a=r:=by simpa using ha
   subst this;exact (hap b (List.mem_of_mem_drop hb)).symm
  ·intro a ha b hb;rcases YAF.1 hb with h1 | h1
   ·have:b=r:=by simpa using h1
    subst this;exact hap a (YAj ha)
   ·exact hp.2.2 a ha b h1
structure PutFine (v:Value) (ps:List RP) (r:RP) (w w':World) (x:Value) (qs:List RP):Prop where
 keep:∀ k,k<w.heap.size->v.ownBlock≠some k->w'.heap[k]? = w.heap[k]?
 row:∀ k,x.ownBlock=some k->v.ownBlock=some k\/w.heap.size<=k
 near:∀ q∈qs,q∈ps\/q.2=r.2
theorem ZoM (v:Value)(ps:List RP)(lo:Nat)(r:RP)(w:World)(hv:RecsOwn w lo w.heap.size v ps)(hlo:lo<=w.heap.size)(hn:tot ps<=1048576)(hasc:Asc (fsts ps))(hr:ZaF w lo w.heap.size r)(hap:∀ p∈ps,ZeH p r):
  Calls Tryz.prog 45 #[v,.agg (recC r.1 r.2)] w fun e w'=>∃ x qs,e=.returned x/\fsts qs=putD (fsts ps) r.1/\RecsOwn w' lo w'.heap.size x qs/\Below lo w w'/\PutFine v ps r w w' x qs:=by
 have hnl:=Zbj ps;have hfl:(fsts ps).length=ps.length:=by simp [fsts]
 obtain⟨a1,c1,hve⟩:=Zac hv.row;obtain⟨ra,rc,hrn⟩:=Zac hr.1;have BX:Below w.heap.size w (w.alloc (.cells #[.int .i64 r.1.area,.int .i64 r.1.kind,.int .i64 r.1.owner,.int .i64 r.1.key,.int .i64 r.1.seq,.slice ra r.1.near.length rc,.int .i64 r.1.cost,.bool r.1.far] 37)):=(YAC _ _).alloc (YA _) _;have hx:=YAE w (.cells #[.int .i64 r.1.area,.int .i64 r.1.kind,.int .i64 r.1.owner,.int .i64 r.1.key,.int .i64 r.1.seq,.slice ra r.1.near.length rc,.int .i64 r.1.cost,.bool r.1.far] 37);obtain⟨w0,hw0⟩:∃ w0,w0=w.alloc (.cells #[.int .i64 r.1.area,.int .i64 r.1.kind,.int .i64 r.1.owner,.int .i64 r.1.key,.int .i64 r.1.seq,.slice ra r.1.near.length rc,.int .i64 r.1.cost,.bool r.1.far] 37):=⟨_,rfl⟩;rw [<-hw0] at BX hx;have hs0:=Zab hx;have hv0:=hv.below BX (YA _);have hr0:=hr.keep (W':=w0) (fun k _ _ h3=>BX.block k h3);have HS:=Zip v ps w.heap.size r w0 hv0.in BX.size hn (hr0.wide (Nat.zero_le _) (YA _)) (by rw [<-hfl];exact ZiI hasc r.1);have d0:=Zaa hx 0;have d1:=Zaa hx 1;have d2:=Zaa hx 2;have d3:=Zaa hx 3;have d4:=Zaa hx 4;have d5:=Zaa hx 5;have d6:=Zaa hx 6;have d7:=Zaa hx 7;simp at d0 d1 d2 d3 d4 d5 d6 d7;have HV:=hide hv0;have HR:=hide hr0;have HA:=hide hasc;have HP:=hide hap;have H1:=hide hr;have HFL:=hide hfl;have HRN:=hide hrn;have HVE:=hide hve;unfold recC at *;rw [hrn] at HS |-;subst hve;have HSS:=hide HS;clear HS hv0 hr0 hasc hap hr hrn hv hfl
 go_enter Tryz.func45,Tryz.ntmps45
 go_wp2_with fail
 rw [<-hw0];clear hw0;refine HSS.out.mono ?_;rintro e w1 ⟨i,f,rfl,hil,q1,q2,q3,b1⟩;have b1s:=b1.size;have hx1:=(b1.block _ hs0).trans hx;have B1:Below w.heap.size w w1:=BX.trans (b1.mono BX.size);have hv1:=(HV.out.below b1 (by omega)).wide (YA _) (show w.heap.size<=w1.heap.size by omega);have hr1:=((HR.out).keep (W':=w1) (fun k _ _ h3=>b1.block k h3)).wide (YA _) (show w.heap.size<=w1.heap.size by omega);have Q1:=hide q1;have Q2:=hide q2;have Q3:=hide q3;clear q1 q2 q3 d0 d1 d2 d3 d4 d5 d6 d7 hx b1;have d0:=Zaa hx1 0;have d1:=Zaa hx1 1;have d2:=Zaa hx1 2;have d3:=Zaa hx1 3;have d4:=Zaa hx1 4;have d5:=Zaa hx1 5;have d6:=Zaa hx1 6;have d7:=Zaa hx1 7;simp at d0 d1 d2 d3 d4 d5 d6 d7;have hii:(0:Int)<=(i:Int):=by omega
 cases f with
 | true=>
  have hil2:i<ps.length:=by
   obtain⟨x,hx,_⟩:=Q3.out.1 rfl;have:=(YAD.1 hx).1;rw [HFL.out] at this;exact this
  have hij:(i:Int)<(ps.length:Int):=by omega
  rcases hv1.row.2 with ⟨_,h0⟩ | ⟨g,cap,cur,hve,_⟩
  ·omega
  ·cases hve;have hpr:r=(r.1,.slice ra r.1.near.length rc):=by rw [<-HRN.out]
   have hfin:=hv1.put (i:=i) rfl hr1 HP.out hil2;have hg:=ZeD w1 g (i*8) r;have hgl:=hv1.row.lt g rfl;have hB:Below lo w (putP w1 g (i*8) r):=(B1.mono hlo).grown hg (by omega) (fun k hk=>by simp at hk;omega);have hl:fsts (ps.set i r)=putD (fsts ps) r.1:=by
    obtain⟨x,hx,h0⟩:=Q3.out.1 rfl;obtain⟨hi2,ex⟩:=YAD.1 hx;rw [Zma,ZmE HA.out hi2 Q1.out (by rw [HFL.out];exact Q2.out) (by rw [ex];exact h0)]
   obtain⟨y0,f0⟩:=Zbe hv1.row (i*8) (by omega);obtain⟨y1,f1⟩:=Zbe hv1.row (i*8+1) (by omega);obtain⟨y2,f2⟩:=Zbe hv1.row (i*8+2) (by omega);obtain⟨y3,f3⟩:=Zbe hv1.row (i*8+3) (by omega);obtain⟨y4,f4⟩:=Zbe hv1.row (i*8+4) (by omega);obtain⟨y5,f5⟩:=Zbe hv1.row (i*8+5) (by omega);obtain⟨y6,f6⟩:=Zbe hv1.row (i*8+6) (by omega);obtain⟨y7,f7⟩:=Zbe hv1.row (i*8+7) (by omega);have fz:=fun j=>hv1.row.frozenAt j;have hne:g≠w.heap.size:=by
    intro e;have h5:=HV.out.top g rfl;omega
   have hpf:∀ r':RP,r'=r->PutFine (.slice (some ⟨g,0,none⟩) ps.length c1) ps r w (putP w1 g (i*8) r') (.slice (some ⟨g,0,none⟩) ps.length c1) (ps.set i r'):=by
    rintro r' rfl;refine⟨fun k h1 h2=>?_,fun k hk=>.inl hk,fun q hq=>?_⟩
    ·rw [(ZeD w1 g (i*8) r').block k (by omega) (fun e=>h2 e.symm)];exact B1.block k h1
    ·rcases List.mem_or_eq_of_mem_set hq with h | h
     ·exact .inl h
     ·exact .inr (by rw [h])
   have HPF:=hide (hpf _ hpr.symm);clear hpf;rw [hpr] at hfin hB hl;have HF:=hide hfin;have HB:=hide hB;have HL:=hide hl;clear hfin hB hl hpr hg hv1 hr1;go_wp2;go_ret
   first
    | exact ⟨_,ps.set i (r.1,.slice ra r.1.near.length rc),rfl,HL.out,HF.out,HB.out,HPF.out⟩
    | exact ⟨_,rfl,ps.set i (r.1,.slice ra r.1.near.length rc),HL.out,HF.out,HB.out,HPF.out⟩
 | false=>
  have hl:fsts (ps.take i++[r]++ps.drop i)=putD (fsts ps) r.1:=by
   rw [Zl9,ZmD HA.out (by rw [HFL.out];exact hil) Q1.out (by rw [HFL.out];exact Q2.out) (fun h=>by have:=Q3.out.2 h;cases this)]
  have HL:=hide hl;clear hl;have BY:Below w1.heap.size w1 (w1.alloc (.cells #[.int .i64 r.1.area,.int .i64 r.1.kind,.int .i64 r.1.owner,.int .i64 r.1.key,.int .i64 r.1.seq,.slice ra r.1.near.length rc,.int .i64 r.1.cost,.bool r.1.far] 37)):=(YAC _ _).alloc (YA _) _;have hy:=YAE w1 (.cells #[.int .i64 r.1.area,.int .i64 r.1.kind,.int .i64 r.1.owner,.int .i64 r.1.key,.int .i64 r.1.seq,.slice ra r.1.near.length rc,.int .i64 r.1.cost,.bool r.1.far] 37);obtain⟨w2,hw2⟩:∃ w2,w2=w1.alloc (.cells #[.int .i64 r.1.area,.int .i64 r.1.kind,.int .i64 r.1.owner,.int .i64 r.1.key,.int .i64 r.1.seq,.slice ra r.1.near.length rc,.int .i64 r.1.cost,.bool r.1.far] 37):=⟨_,rfl⟩;rw [<-hw2] at BY hy;have hv2:=(hv1.below BY (YA _)).wide (YA _) BY.size;have hr2:=(hr1.keep (W':=w2) (fun k _ _ h3=>BY.block k h3)).wide (YA _) BY.size;have HI:=Zng lo i w1.heap.size _ ps r w2 hv2 (by have:=BY.size;omega) hil (by omega) (by
   rw [hy];unfold encP;rw [HRN.out]) (fun e=>by
    have h6:=hv1.top _ e.symm;omega) (Zmu hr2)
  have HII:=hide HI;have HV2:=hide hv2;have HR2:=hide hr2;have B2:Below w.heap.size w w2:=B1.trans (BY.mono (by omega));have hb2:=BY.size;clear HI hv1 hr1 hv2 hr2
  go_wp2_with fail
  rw [<-hw2];clear hw2;refine HII.out.mono ?_;rintro e w3 ⟨x,rfl,hrow,hg,hgv⟩;have hfin:=HV2.out.ins HR2.out HP.out hil hrow hg;have hB:Below lo w w3:=(B2.mono hlo).grown hg (by omega) (fun k hk=>(HV2.out.row.lt k hk).1);obtain⟨xa,xc,rfl⟩:=Zac hrow;have hpf:PutFine (.slice a1 ps.length c1) ps r w w3 (.slice xa (ps.length+1) xc) (ps.take i++[r]++ps.drop i):=by
   refine⟨fun k h1 h2=>?_,fun k hk=>?_,fun q hq=>?_⟩
   ·rw [hg.block k (by have:=B2.size;omega) (fun e=>h2 e.symm)];exact B2.block k h1
   ·rcases hgv k hk with h | h
    ·exact .inl h
    ·exact .inr (by have:=B2.size;omega)
   ·rcases YAF.1 hq with h | h
    ·rcases YAF.1 h with h | h
     ·exact .inl (YAj h)
     ·exact .inr (by rw [YAw.1 h])
    ·exact .inl (List.mem_of_mem_drop h)
  have HPF:=hide hpf;have HF:=hide hfin;have HB:=hide hB;clear hfin hB hrow hg hgv hpf;go_wp2;go_ret
  first
   | exact ⟨_,_,rfl,HL.out,HF.out,HB.out,HPF.out⟩
   | exact ⟨_,rfl,_,HL.out,HF.out,HB.out,HPF.out⟩
def ptrO:Option Nat->Value
 | some k=>.pointer (some ⟨k,0,none⟩)
 | none=>.pointer none
def finC (bp:Nat->Option Nat)(u:Value):Array Value:=#[ptrO (bp 0),ptrO (bp 1),ptrO (bp 2),ptrO (bp 3),ptrO (bp 4),ptrO (bp 5),ptrO (bp 6),u]
theorem ZrP (bp:Nat->Option Nat)(u:Value)(ht:1<=t/\t<=6):(finC bp u)[t]? = some (ptrO (bp t)):=by
 rcases Zge ht with rfl | rfl | rfl | rfl | rfl | rfl <;> rfl
theorem Zqc (bp:Nat->Option Nat)(u:Value)(ht:1<=t/\t<=6)(k:Nat):(finC bp u).setIfInBounds t (.pointer (some ⟨k,0,none⟩))=finC (upd bp t (some k)) u:=by
 rcases Zge ht with rfl | rfl | rfl | rfl | rfl | rfl <;> simp [finC,upd,ptrO]
theorem Zg8 (bp:Nat->Option Nat)(u u':Value):(finC bp u).setIfInBounds 7 u'=finC bp u':=by simp [finC]
structure FS (W:World) (lo z:Nat) (u:Value) (n:Nat) (q:Nat->Nat) (bp:Nat->Option Nat) (wd:Nat->WayD) (wv:Nat->Value):Prop where
 lz:lo<=z
 hb:HB W lo z (finC bp u) u n q wd wv
 hp:ZcV (fun k=>(wd k).cost) q n
 way:∀ v k,bp v=some k->W.heap[k]? = some (.cells (wayC (wd k) (wv k)) 108)/\lo<=k
 row:∀ v k,bp v=some k->W.ownsRow lo 3 1 (wv k) (wd k).hops.length (flat intE (wd k).hops)
 short:∀ v k,bp v=some k->(wd k).hops.length<=6
 apart:∀ v v' k k',v≠v'->bp v=some k->bp v'=some k'->∀ b,(wv k).ownBlock=some b->(wv k').ownBlock≠some b
 to:∀ v k,bp v=some k->(wd k).to=(v:Int)
 b0:bp 0=none
theorem FS.size (s:FS W lo z u n q bp wd wv):lo<=W.heap.size:=by
 have:=Zab s.hb.box;have:=s.lz;omega
theorem FS.below {W':World}(s:FS W lo z u n q bp wd wv)(hb:Below W.heap.size W W'):FS W' lo z u n q bp wd wv:=
 ⟨s.lz,s.hb.below hb,s.hp,fun v k e=>⟨(hb.block _ (Zab (s.way v k e).1)).trans (s.way v k e).1,(s.way v k e).2⟩,fun v k e=>Zad (s.row v k e) hb (YA _),s.short,s.apart,s.to,s.b0⟩
theorem FS.known (s:FS W lo z u n q bp wd wv)(ht:1<=t/\t<=6):W.cell? ⟨z,t,none⟩=some (ptrO (bp t)):=(Zaa s.hb.box t).trans (ZrP bp u ht)
theorem FS.put (s:FS W lo z u n q bp wd wv)(ht:1<=t/\t<=6)(x:WayD)(v:Value)
  (hq:∀ i,i<n->q i≠k) (hk:W.heap[k]? = some (.cells (wayC x v) 108)):
  HB (W.setCell ⟨z,t,none⟩ (.pointer (some ⟨k,0,none⟩))) lo z (finC (upd bp t (some k)) u) u n q (upd wd k x) (upd wv k v)/\(W.setCell ⟨z,t,none⟩ (.pointer (some ⟨k,0,none⟩))).heap[k]? = some (.cells (wayC (upd wd k x k) (upd wv k v k)) 108)/\FK W (W.setCell ⟨z,t,none⟩ (.pointer (some ⟨k,0,none⟩))) lo z:=by
 have hkz:∀ (j:Nat) (cs:Array Value),W.heap[j]? = some (.cells cs 108)->(W.setCell ⟨z,t,none⟩ (.pointer (some ⟨k,0,none⟩))).heap[j]? = some (.cells cs 108):=by
  intro j cs hj;rw [YAO W ⟨z,t,none⟩ j _ (fun e=>by
   have e':j=z:=e;rw [e',s.hb.box] at hj;simp at hj)]
  exact hj
 refine⟨⟨?_,rfl,?_,fun i hi=>?_,fun i hi=>?_⟩,?_,FK.of_set _ s.lz⟩
 ·have e:=YAU W z t _ _ (.pointer (some ⟨k,0,none⟩)) s.hb.box;rw [Zqc bp u ht k] at e;exact e
 ·exact Zal s.hb.hq.row (fun j hj=>YAO W ⟨z,t,none⟩ j _ (fun e=>by
   have e':j=z:=e;exact Zar s.hb.hq.row s.hb.box (by decide) (by rw [hj,e'])))
 ·rw [Zao _ _ (hq i hi),Zao _ _ (hq i hi)];exact hkz _ _ (s.hb.hq.way i hi)
 ·rw [Zao _ _ (hq i hi)];exact s.hb.hq.sl i hi
 ·rw [Zau,Zau];exact hkz _ _ hk
theorem FS.pushed {W':World}{u':Value}{q':Nat->Nat}(s:FS W lo z u n q bp wd wv)(ht:1<=t/\t<=6){x:WayD}{v:Value}(hx:x.to=(t:Int))(hxl:x.hops.length<=6)
  (hk:W.heap[k]? = some (.cells (wayC x v) 108)) (hlk:lo<=k) (hbk:∀ v,bp v≠some k) (hrow:W.ownsRow lo 3 1 v x.hops.length (flat intE x.hops)) (hfr:∀ v' k' b,bp v'=some k'->(wv k').ownBlock=some b->v.ownBlock≠some b)
  (f1:FK W W2 lo z) (f2:FK W2 W' lo z) (hb':HB W' lo z (finC (upd bp t (some k)) u') u' (n+1) q' (upd wd k x) (upd wv k v)) (hi:ZcV (fun k'=>(upd wd k x k').cost) q' (n+1)):FS W' lo z u' (n+1) q' (upd bp t (some k)) (upd wd k x) (upd wv k v):=by
 have F:=f1.trans f2;have keepW:∀ (j:Nat) (cs:Array Value),W.heap[j]? = some (.cells cs 108)->W'.heap[j]? = some (.cells cs 108):=by
  intro j cs hj;exact (F.typed j cs _ _ hj (by decide) (fun e=>by rw [e,s.hb.box] at hj;simp at hj)).trans hj
 have keepR:∀ (v:Value) (l:List Int),W.ownsRow lo 3 1 v l.length (flat intE l)->W'.ownsRow lo 3 1 v l.length (flat intE l):=by
  intro v l ho;refine Zal ho (fun j hj=>?_);rcases ho.2 with ⟨e1,_⟩ | ⟨g2,cap,cur,e1,_,hh,_⟩
  ·rw [e1] at hj;cases hj
  ·rw [e1] at hj;simp [Value.ownBlock] at hj;subst hj;exact F.typed _ _ _ _ hh (by decide) (fun e=>by rw [e,s.hb.box] at hh;simp at hh)
 have wb:∀ v k',bp v=some k'->k'≠k:=fun v k' e e2=>hbk v (by rw [e,e2]);refine⟨s.lz,hb',hi,fun v' k' e=>?_,fun v' k' e=>?_,fun v' k' e=>?_,fun v1 v2 k1 k2 hne e1 e2 b hb1 hb2=>?_,fun v' k' e=>?_,?_⟩
 ·by_cases e2:v'=t
  ·subst e2;rw [Zau] at e;cases e;rw [Zau,Zau];exact⟨keepW _ _ hk,hlk⟩
  ·rw [Zao _ _ e2] at e;rw [Zao _ _ (wb v' k' e),Zao _ _ (wb v' k' e)];exact⟨keepW _ _ (s.way v' k' e).1,(s.way v' k' e).2⟩
 ·by_cases e2:v'=t
  ·subst e2;rw [Zau] at e;cases e;rw [Zau,Zau];exact keepR _ _ hrow
  ·rw [Zao _ _ e2] at e;rw [Zao _ _ (wb v' k' e),Zao _ _ (wb v' k' e)];exact keepR _ _ (s.row v' k' e)
 ·by_cases e2:v'=t
  ·subst e2;rw [Zau] at e;cases e;rw [Zau];exact hxl
  ·rw [Zao _ _ e2] at e;rw [Zao _ _ (wb v' k' e)];exact s.short v' k' e
 ·by_cases a1:v1=t
  ·subst a1;rw [Zau] at e1;cases e1;rw [Zau] at hb1;rw [Zao _ _ (fun e=>hne e.symm)] at e2;rw [Zao _ _ (wb v2 k2 e2)] at hb2;exact hfr v2 k2 b e2 hb2 hb1
  ·rw [Zao _ _ a1] at e1;rw [Zao _ _ (wb v1 k1 e1)] at hb1;by_cases a2:v2=t
   ·subst a2;rw [Zau] at e2;cases e2;rw [Zau] at hb2;exact hfr v1 k1 b e1 hb1 hb2
   ·rw [Zao _ _ a2] at e2;rw [Zao _ _ (wb v2 k2 e2)] at hb2;exact s.apart v1 v2 k1 k2 hne e1 e2 b hb1 hb2
 ·by_cases e2:v'=t
  ·subst e2;rw [Zau] at e;cases e;rw [Zau];exact hx
  ·rw [Zao _ _ e2] at e;rw [Zao _ _ (wb v' k' e)];exact s.to v' k' e
 ·rw [Zao _ _ (by omega)];exact s.b0
theorem FS.joined (s:FS W lo z u n q bp wd wv){B:Nat}{y:WayD}{vy:Value}(hbt:bp t=some k)(hc:y.cost=(wd k).cost)(hto:y.to=(wd k).to)(hyl:y.hops.length<=6)
  (hb2:Below W.heap.size W W2) (hB:W.heap.size<=B) (hrow:W2.ownsRow B 3 1 vy y.hops.length (flat intE y.hops)):FS (Za8 W2 k y vy) lo z u n q bp (upd wd k y) (upd wv k vy):=by
 have s2:=s.below hb2;have hk:=(s2.way t k hbt).1;have G:=Za2 W2 k y vy;have hfin:(Za8 W2 k y vy).heap[k]? = some (.cells (wayC y vy) 108):=Zds y vy (by rw [hk];rfl);have hcost:∀ k',(upd wd k y k').cost=(wd k').cost:=by
  intro k';by_cases e:k'=k
  ·rw [e,Zau];exact hc
  ·rw [Zao _ _ e]
 have hkz:z≠k:=fun e=>by rw [<-e,s2.hb.box] at hk;simp at hk
 have keepR:∀ (b0:Nat) (v:Value) (l:List Int),W2.ownsRow b0 3 1 v l.length (flat intE l)->(Za8 W2 k y vy).ownsRow b0 3 1 v l.length (flat intE l):=by
  intro b0 v l ho;refine Zal ho (fun j hj=>G.block j (ho.lt j hj).2 (fun e=>?_));have e':j=k:=by simpa using e
  exact Zar ho hk (by decide) (by rw [hj,e'])
 have hway:∀ k',(∃ x v,W2.heap[k']? = some (.cells (wayC x v) 108)/\x=wd k'/\v=wv k')->(Za8 W2 k y vy).heap[k']? = some (.cells (wayC (upd wd k y k') (upd wv k vy k')) 108):=by
  rintro k' ⟨x,v,h1,rfl,rfl⟩;by_cases e:k'=k
  ·rw [e,Zau,Zau];exact hfin
  ·rw [Zao _ _ e,Zao _ _ e,G.block k' (Zab h1) (by simpa using e)];exact h1
 have lowRow:∀ v' k',bp v'=some k'->∀ b,(wv k').ownBlock=some b->b<W.heap.size:=fun v' k' e b hb=>((s.row v' k' e).lt b hb).2;have newRow:∀ b,vy.ownBlock=some b->W.heap.size<=b:=fun b hb=>by have:=(hrow.lt b hb).1;omega
 refine⟨s.lz,⟨?_,rfl,?_,fun i hi=>?_,fun i hi=>?_⟩,?_,fun v' k' e=>⟨hway k' ⟨_,_,(s2.way v' k' e).1,rfl,rfl⟩,(s.way v' k' e).2⟩,fun v' k' e=>?_,fun v' k' e=>?_,fun v1 v2 k1 k2 hne e1 e2 b hb1 hb2=>?_,fun v' k' e=>?_,s.b0⟩
 ·rw [G.block z (Zab s2.hb.box) (by simpa using hkz)];exact s2.hb.box
 ·refine Zal s2.hb.hq.row (fun j hj=>G.block j (s2.hb.hq.row.lt j hj).2 (fun e=>?_));have e':j=k:=by simpa using e
  exact Zar s2.hb.hq.row hk (by decide) (by rw [hj,e'])
 ·exact hway (q i) ⟨_,_,s2.hb.hq.way i hi,rfl,rfl⟩
 ·by_cases e:q i=k
  ·rw [e,Zau];obtain⟨a,c,e2⟩:=Zac hrow;exact⟨a,_,c,e2⟩
  ·rw [Zao _ _ e];exact s.hb.hq.sl i hi
 ·intro i h0 hi;show (upd wd k y (q (par i))).cost<=(upd wd k y (q i)).cost;rw [hcost,hcost];exact s.hp i h0 hi
 ·by_cases e2:k'=k
  ·rw [e2,Zau,Zau];exact Zaf (keepR B vy y.hops hrow) (by have:=s.size;omega)
  ·rw [Zao _ _ e2,Zao _ _ e2];exact keepR lo _ _ (s2.row v' k' e)
 ·by_cases e2:k'=k
  ·rw [e2,Zau];exact hyl
  ·rw [Zao _ _ e2];exact s.short v' k' e
 ·by_cases a1:k1=k
  ·have a2:k2≠k:=fun a2=>by
    have h1:=s.to v1 k1 e1;have h2:=s.to v2 k2 e2;rw [a1] at h1;rw [a2] at h2;omega
   rw [a1,Zau] at hb1;rw [Zao _ _ a2] at hb2;have h1:=newRow b hb1;have h2:=lowRow v2 k2 e2 b hb2;omega
  ·rw [Zao _ _ a1] at hb1;by_cases a2:k2=k
   ·rw [a2,Zau] at hb2;have h1:=newRow b hb2;have h2:=lowRow v1 k1 e1 b hb1;omega
   ·rw [Zao _ _ a2] at hb2;exact s.apart v1 v2 k1 k2 hne e1 e2 b hb1 hb2
 ·by_cases e2:k'=k
  ·rw [e2,Zau,hto];rw [e2] at e;exact s.to v' k e
  ·rw [Zao _ _ e2];exact s.to v' k' e
def NetRo (W:World)(v:Value)(x:NetD):Prop:=∃ v1 v2,v=.agg #[.int .i64 x.n,v1,v2]/\W.ownsRow 0 78 4 v1 x.ls.length (flat lkE x.ls)/\ZaS W v2 x.ts W.heap.size
theorem Zk6 (a:Option Addr)(len cap:Nat)(w:World)(hc:Code w a len w.heap.size):
  Calls Tryz.prog 5 #[.slice a len cap] w fun e w'=>∃ (x:NetD) (v y z:Value) (ys zs:List Bool),e=.returned (.tuple #[v,y,z])/\Za0 x=true/\NetRo w' v x/\Hid (Zbh w' y ys w'.heap.size/\Zbh w' z zs w'.heap.size/\ys.length=x.ls.length/\(zs.length:Int)=x.n)/\Below w.heap.size w w':=by
 have HC:=hide hc;clear hc
 go_enter Tryz.func5,Tryz.ntmps5
 go_wp2_with fail
 refine (new_at (w.heap.size+1) a len cap _ (by simp) (ZmY HC.out ((YAC _ _).alloc (YA _) _))).mono ?_;rintro e w1 ⟨rfl,hc1,hb1⟩;have hr1:w1.heap[w.heap.size]? = some (.cells #[.int .i64 0,.slice none 0 0,.slice none 0 0] 27):=by rw [hb1.block _ (by omega)];exact YAE w _
 have B1:Below w.heap.size w w1:=((YAC _ _).alloc (YA _) _).trans (hb1.mono (by omega));obtain⟨p,hp⟩:∃ p,p=w.heap.size+1:=⟨_,rfl⟩;rw [<-hp] at hc1 hb1 |-;have hp1:w.heap.size<p:=by omega
 clear hp;have hpw:=Zci hc1;have HCC:=hide hc1;have HR1:=hide hr1;clear hb1 hc1 hr1
 go_wp2_with fail
 refine (Zr1 p a len cap _ HCC.out).mono ?_;rintro e w2 ⟨x,v1,v2,rfl,hok,o1,o2,hc2,hb2⟩;obtain⟨b1,c1,rfl⟩:=ZaK.shape (Zam o1);obtain⟨b2,c2,rfl⟩:=ZaS.shape (Zam o2);have hz2:w1.heap.size<=w2.heap.size:=hb2.size;have hr2:w2.heap[w.heap.size]? = some (.cells #[.int .i64 0,.slice none 0 0,.slice none 0 0] 27):=by rw [hb2.block _ (by omega)];exact HR1.out
 have B2:Below w.heap.size w w2:=B1.trans (hb2.mono (by omega));have HOK:=hide hok;have O1:=hide o1;have O2:=hide o2;have HC2:=hide hc2;have HR2:=hide hr2;clear hok o1 o2 hc2 hr2 hb2 HR1 HCC B1 HC;obtain⟨w5,hw5⟩:∃ w5,w5=w2.alloc (.cells #[.int .i64 x.n,.slice b1 x.ls.length c1,.slice b2 x.ts.length c2] 27):=⟨_,rfl⟩;have st5:DSt w w5 (((w2.alloc (.cells #[.int .i64 x.n,.slice b1 x.ls.length c1,.slice b2 x.ts.length c2] 27)).alloc (.cells #[] 4)).alloc (.cells #[] 4)) p w2.heap.size a len cap:=by
  rw [<-hw5];refine DSt.alloc (DSt.alloc ⟨?_,?_,fun _ _ _=>rfl,?_⟩ _) _
  ·rw [hw5];exact Zcf HC2.out _
  ·rw [hw5];exact B2.alloc B2.size _
  ·rw [hw5];simp
 have ST5:=hide st5;have hbx:w5.heap[w2.heap.size]? = some (.cells #[.int .i64 x.n,.slice b1 x.ls.length c1,.slice b2 x.ts.length c2] 27):=by rw [hw5];exact YAE w2 _
 have HBX:=hide hbx;have HW5:=hide hw5;clear st5 hbx hw5;obtain⟨z,hz⟩:∃ z,z=w2.heap.size:=⟨_,rfl⟩;have hzz:p<z:=by omega
 have hzw:w.heap.size<=z:=by omega
 have OB:(((w2.alloc (.cells #[.int .i64 x.n,.slice b1 x.ls.length c1,.slice b2 x.ts.length c2] 27)).alloc (.cells #[] 4)).alloc (.cells #[] 4)).ownsRow (z+1) 4 1 (.slice (some ⟨z+1,0,none⟩) 0 0) 0 []/\(((w2.alloc (.cells #[.int .i64 x.n,.slice b1 x.ls.length c1,.slice b2 x.ts.length c2] 27)).alloc (.cells #[] 4)).alloc (.cells #[] 4)).heap[z+2]? = some (.cells #[] 4):=by
  refine⟨?_,?_⟩
  ·have h:=(World.ownsRow_lit (base:=z+1) (e:=4) (size:=1) (w2.alloc (.cells #[.int .i64 x.n,.slice b1 x.ls.length c1,.slice b2 x.ts.length c2] 27)) #[] 0 (by simp;omega) (by decide) rfl).alloc (.cells #[] 4);simpa [hz] using h
  ·have h:=YAE ((w2.alloc (.cells #[.int .i64 x.n,.slice b1 x.ls.length c1,.slice b2 x.ts.length c2] 27)).alloc (.cells #[] 4)) (.cells #[] 4);simpa [hz] using h
 obtain⟨ob1,ob2⟩:=OB;have OB1:=hide ob1;have OB2:=hide ob2;clear ob1 ob2;have HZ:=hide hz;go_wp2;rw [<-HZ.out];rw [<-HZ.out] at ST5 HBX;clear hz
 go_loopw [7,9] (fun u i wr=>∃ (k:Nat) (l:List Bool),k<=x.ls.length/\i=.int .i64 k/\l.length=k/\DSt w w5 wr p z a len cap/\wr.ownsRow (z+1) 4 1 u l.length (flat blE l)/\wr.heap[z+2]? = some (.cells #[] 4)/\u.ownBlock≠some (z+2)) (fun _ i _=>x.ls.length-(intOf i).toNat)
 case atStart=>exact ⟨0,[],by omega,rfl,rfl,ST5.out,OB1.out,OB2.out,by simp [Value.ownBlock]⟩
 case round=>
  clear ST5 OB1 OB2;obtain⟨k,l,hk,rfl,hlk,st,hown,hz3,hne⟩:=hrel;have hbx:wr.heap[z]? = some (.cells #[.int .i64 x.n,.slice b1 x.ls.length c1,.slice b2 x.ts.length c2] 27):=by rw [st.kept z (by omega) (by omega)];exact HBX.out
  have g1:=Zaa hbx 1;simp at g1;have hzs:=Zab hz3;have hll:l.length<=k:=by omega
  have HLK:=hide hlk;have HZ3:=hide hz3;have HNE:=hide hne;have OW:=hide hown;have ST:=hide st;clear hlk hz3 hne hown st hbx;have hl12:=(ZqB HOK.out).1;by_cases hlt:k<x.ls.length
  ·have hlt':(k:Int)<(x.ls.length:Int):=by omega
   go_wp2_with fail
   refine (Zjk p a len cap 6 _ ST.out.cur (by omega) (by omega)).mono ?_;rintro e w6 ⟨q,rfl,hc6,hg6⟩;have st6:=ST.out.grown hc6 hg6 (by omega);have o6:=Zc0 OW.out hg6 (by omega);have h63:w6.heap[z+2]? = some (.cells #[] 4):=by rw [hg6.block _ hzs (by simp;omega)];exact HZ3.out
   have hs6:=Zab h63;have ST6:=hide st6;have OW6:=hide o6;have H63:=hide h63;clear hc6 hg6 st6 o6 h63 ST OW HZ3
   go_wp2_with (first
    | (at_builtin;refine Zdp _ rfl _ _ 28 rfl (z+1) 4 Tryz.underlying28 Tryz.infoB u7 l (!q) rfl (OW6.out.alloc _) ⟨w6.heap.size,0,none⟩ 1 rfl (Zan (cs:=blE (!q))) (by omega) (by simp;omega) ?_))
   intro v' w7 l' hl' hown' hgrow hblk;have st7:=ST6.out.appended _ OW6.out hzz hzw hgrow;have h73:w7.heap[z+2]? = some (.cells #[] 4):=by rw [hgrow.block _ (by simp;omega) (fun h=>HNE.out h.symm),YAH _ _ _ hs6];exact H63.out
   have hne':v'.ownBlock≠some (z+2):=by
    rcases hblk with h | h
    ·rw [h];exact HNE.out
    ·rw [h];simp;omega
   have ST7:=hide st7;have H73:=hide h73;have HNE7:=hide hne';have OW7:=hide hown';clear st7 h73 hne' hown' hgrow hblk ST6 OW6 H63;go_wp2;go_roundw
   case rel=>exact ⟨k+1,l',by omega,by go_num,by rw [hl'.out];simp [HLK.out],ST7.out,OW7.out,H73.out,HNE7.out⟩
   case measure=>simp [intOf];omega
  ·have hlt':¬(k:Int)<(x.ls.length:Int):=by omega
   obtain⟨wo,rfl⟩:∃ wo:World,wo=wr:=⟨_,rfl⟩;go_wp2;have ow8:wo.ownsRow (z+1) 4 1 (.slice (some ⟨z+2,0,none⟩) 0 0) 0 []:=⟨rfl,.inr ⟨z+2,0,#[],rfl,by omega,HZ3.out,YA _,by decide,rfl,rfl⟩⟩;have OW8:=hide ow8;have HLL:=hide (show l.length=x.ls.length by have:=HLK.out;omega);have OWL:=hide OW.out;have HAP:=hide (show ∀ b,u7.ownBlock=some b->(Value.slice (some ⟨z+2,0,none⟩) 0 0).ownBlock≠some b from fun b hb he=>by simp [Value.ownBlock] at he;subst he;exact HNE.out hb);obtain⟨lsb,hlsb⟩:∃ m,m=l:=⟨_,rfl⟩;rw [<-hlsb] at HLL OWL;clear ow8 hlt hlt' hk g1 hll HLK OW HNE hlsb
   go_loopw [8,10] (fun u i wr=>∃ (k:Nat) (l:List Bool),(k:Int)<=x.n/\i=.int .i64 k/\l.length=k/\DSt w w5 wr p z a len cap/\wr.ownsRow (z+1) 4 1 u l.length (flat blE l)/\wr.ownsRow (z+1) 4 1 u7 lsb.length (flat blE lsb)/\(∀ b,u7.ownBlock=some b->u.ownBlock≠some b)) (fun _ i _=>7-(intOf i).toNat)
   case atStart=>exact ⟨0,[],by have:=Zmv HOK.out;omega,rfl,rfl,ST.out,OW8.out,OWL.out,HAP.out⟩
   case round=>
    clear ST OW8 HZ3 hzs;clear OWL HAP;obtain⟨k,l,hk,rfl,hlk,st,hown,hownl,hap⟩:=hrel;have OWL:=hide hownl;have HAP:=hide hap;clear hownl hap;have hbx:wr.heap[z]? = some (.cells #[.int .i64 x.n,.slice b1 x.ls.length c1,.slice b2 x.ts.length c2] 27):=by rw [st.kept z (by omega) (by omega)];exact HBX.out
    have g0:=Zaa hbx 0;have g1:=Zaa hbx 1;have g2:=Zaa hbx 2;simp at g0 g1 g2;have hll:l.length<=k:=by omega
    have HLK:=hide hlk;have OW:=hide hown;have ST:=hide st;clear hlk hown st hbx;have hn6:=Zmv HOK.out;by_cases hlt:(k:Int)<x.n
    ·go_wp2_with fail
     refine (Zjk p a len cap 8 _ ST.out.cur (by omega) (by omega)).mono ?_;rintro e w6 ⟨q,rfl,hc6,hg6⟩;have st6:=ST.out.grown hc6 hg6 (by omega);have o6:=Zc0 OW.out hg6 (by omega);have ol6:=Zc0 OWL.out hg6 (by omega);have OL6:=hide ol6;clear ol6 OWL;have hs6:=st6.size;have ST6:=hide st6;have OW6:=hide o6;clear hc6 hg6 st6 o6 ST OW
     go_wp2_with (first
      | (at_builtin;refine Zdp _ rfl _ _ 28 rfl (z+1) 4 Tryz.underlying28 Tryz.infoB u8 l (!q) rfl (OW6.out.alloc _) ⟨w6.heap.size,0,none⟩ 1 rfl (Zan (cs:=blE (!q))) (by omega) (by simp;omega) ?_))
     intro v' w7 l' hl' hown' hgrow hblk;have st7:=ST6.out.appended _ OW6.out hzz hzw hgrow;have OL7:=hide (Zal (OL6.out.alloc _) (fun j hj=>hgrow.block j ((OL6.out.alloc _).lt j hj).2 (fun e=>HAP.out j hj e.symm)));have HAP7:=hide (show ∀ b,u7.ownBlock=some b->v'.ownBlock≠some b from fun b hb he=>by
      rcases hblk with h | h
      ·rw [h] at he;exact HAP.out b hb he
      ·rw [h] at he;have:=(OL6.out.lt b hb).2;simp at he;omega)
     clear HAP OL6;have ST7:=hide st7;have OW7:=hide hown';clear st7 hown' hgrow hblk ST6 OW6;go_wp2;go_roundw
     case rel=>exact ⟨k+1,l',by omega,by go_num,by rw [hl'.out];simp [HLK.out],ST7.out,OW7.out,OL7.out,HAP7.out⟩
     case measure=>simp [intOf];omega
    ·have hr:wr.heap[w.heap.size]? = some (.cells #[.int .i64 0,.slice none 0 0,.slice none 0 0] 27):=by
      rw [ST.out.kept _ (by omega) (by omega),HW5.out,YAH _ _ _ (Zab HR2.out)];exact HR2.out
     have r0:=Zaa hr 0;have r1:=Zaa hr 1;have r2:=Zaa hr 2;have f0:=Zae hr 0;have f1:=Zae hr 1;have f2:=Zae hr 2;simp at r0 r1 r2;have HR:=hide hr;clear hr;go_wp2;obtain⟨W,hW⟩:∃ W,W=(((wr.setCell ⟨w.heap.size,0,none⟩ (.int .i64 x.n)).setCell ⟨w.heap.size,1,none⟩ (.slice b1 x.ls.length c1)).setCell ⟨w.heap.size,2,none⟩ (.slice b2 x.ts.length c2)):=⟨_,rfl⟩;have hfin:W.heap[w.heap.size]? = some (.cells #[.int .i64 x.n,.slice b1 x.ls.length c1,.slice b2 x.ts.length c2] 27):=by
      have k1:=YAU _ _ 0 _ _ (.int .i64 x.n) HR.out;have k2:=YAU _ _ 1 _ _ (.slice b1 x.ls.length c1) k1;have k3:=YAU _ _ 2 _ _ (.slice b2 x.ts.length c2) k2;rw [hW];exact k3
     have hkw:∀ b,b<z->b≠p->wr.heap[b]? = w2.heap[b]? := fun b hb hbp=>by
      rw [ST.out.kept b (by omega) hbp,HW5.out,YAH _ _ _ (by rw [<-HZ.out];exact hb)]
     have p1:W.ownsRow w1.heap.size 78 4 (.slice b1 x.ls.length c1) x.ls.length (flat lkE x.ls):=by
      rw [hW];exact ZaG (ZaG (ZaG (Zii O1.out (by rw [<-HZ.out];exact YA _) hpw hkw) (by omega)) (by omega)) (by omega)
     have p2:W.ownsRow w1.heap.size 65 4 (.slice b2 x.ts.length c2) x.ts.length (flat thE x.ts):=by
      rw [hW];exact ZaG (ZaG (ZaG (Zii O2.out (by rw [<-HZ.out];exact YA _) hpw hkw) (by omega)) (by omega)) (by omega)
     have BW:Below w.heap.size w W:=by
      rw [hW];exact ((ST.out.bel.setCell (by show w.heap.size<=w.heap.size;omega) _).setCell (by show w.heap.size<=w.heap.size;omega) _).setCell (by show w.heap.size<=w.heap.size;omega) _
     rw [<-hW];have NT:NetRo W (.agg #[.int .i64 x.n,.slice b1 x.ls.length c1,.slice b2 x.ts.length c2]) x:=⟨_,_,rfl,Zaf p1 (Nat.zero_le _),Zam p2⟩;have HNT:=hide NT;have HBL:=hide (show Zbh W u7 lsb W.heap.size/\Zbh W u8 l W.heap.size/\lsb.length=x.ls.length/\(l.length:Int)=x.n from ⟨Zam (by rw [hW];exact ZaG (ZaG (ZaG OWL.out (by omega)) (by omega)) (by omega)),Zam (by rw [hW];exact ZaG (ZaG (ZaG OW.out (by omega)) (by omega)) (by omega)),HLL.out,by have:=HLK.out;omega⟩);clear hW hkw p1 p2 NT r0 r1 r2 f0 f1 f2 HR;have r0:=Zaa hfin 0;have r1:=Zaa hfin 1;have r2:=Zaa hfin 2;simp at r0 r1 r2;clear hfin
     (try simp only [Exit.inBlock,Exit.then])
     refine bodyPost_ret (v:=.tuple #[.agg #[.int .i64 x.n,.slice b1 x.ls.length c1,.slice b2 x.ts.length c2],u7,u8]) (by simp [results,Tryz.results5,go_sem,r0,r1,r2]) rfl ?_;exact⟨x,_,_,_,rfl,HOK.out,HNT.out,⟨lsb,l,HBL⟩,BW⟩
end Go.Proofs.YtikloccefmofdaaGreat
