/-
  Parts.
-/
import Derived.Test.YtdhnddfnckgbjaaGreatZi14
import Derived.Test.YtdhnddfnckgbjaaGreatZi13
namespace Go.Proofs.YtdhnddfnckgbjaaGreat
open Go.RowKit
set_option linter.unusedSimpArgs false
set_option linter.unusedVariables false
set_option maxRecDepth 100000
set_option maxHeartbeats 8000000
def seq1 (r:RecD):RecD:=if r.seq=0 then { r with seq:=1 } else r
def ZdT (xs ts:List RecD):List RecD:=ts.foldl (fun a r=>putD a (seq1 r)) xs
theorem Zhf {xs ts:List RecD}{k:Nat}{r:RecD}(h:ts[k]? = some r):ZdT xs (ts.take (k+1))=putD (ZdT xs (ts.take k)) (seq1 r):=by
 obtain⟨hk,e⟩:=YAD.1 h;unfold ZdT;rw [YAJ hk,e,List.foldl_append];rfl
theorem Zmw {ts:List RP}{k:Nat}{p:RP}(h:ts[k]? = some p):tot (ts.take (k+1))=tot (ts.take k)+(1+p.1.near.length):=by
 obtain⟨hk,e⟩:=YAD.1 h;rw [YAJ hk,ZcY,e];simp [tot]
theorem ZiJ (ts:List RP)(k:Nat):tot (ts.take k)<=tot ts:=by
 have h:=ZcY (ts.take k) (ts.drop k);rw [List.take_append_drop] at h;omega
theorem ZnV (v v2:Value)(ps ts:List RP)(hi:Nat)(w:World)(hv:RecsIn w hi v ps)(ht:RecsIn w hi v2 ts)(hhi:hi<=w.heap.size)(hn:tot ps+tot ts<=1048576):
  Calls Tryz.prog 105 #[v,v2] w fun e w'=>∃ x qs,e=.returned x/\fsts qs=ZdT (fsts ps) (fsts ts)/\RecsIn w' w'.heap.size x qs/\tot qs<=tot ps+tot ts/\Below w.heap.size w w':=by
 have htl:=ZcB ts;obtain⟨a1,c1,rfl⟩:=Zac hv.row;obtain⟨a2,c2,rfl⟩:=Zac ht.row;have HT:=hide ht;have HV0:=hide (hv.wide hhi);clear hv ht
 go_enter Tryz.func105,Tryz.ntmps105
 go_wp2
 go_loopw [6,5] (fun i o wr=>∃ (k:Nat) (x:Value) (qs:List RP),k<=ts.length/\i=.int .i64 (k:Int)/\o=x/\RecsIn wr wr.heap.size x qs/\Hid (fsts qs=ZdT (fsts ps) ((fsts ts).take k))/\tot qs<=tot ps+tot (ts.take k)/\Below w.heap.size w wr) (fun i _ _=>ts.length-(intOf i).toNat)
 case atStart=>exact ⟨0,_,ps,by omega,rfl,rfl,HV0.out,hide (by simp [ZdT]),by omega,YAB _ _⟩
 case round=>
  obtain⟨k,x,qs,hk,rfl,rfl,hin,HF,htq,hnx⟩:=hrel;clear HV0;obtain⟨xa,xc,rfl⟩:=Zac hin.row;have hsz:=hnx.size;by_cases hlt:k<ts.length
  ·obtain ⟨p,hp⟩:∃ p,ts[k]? = some p:=⟨ts[k],YAA hlt⟩;obtain⟨bb,off,cap',hve,hbb,c0,c1,c2,c3,c4,c5,c6,c7,hnr⟩:=HT.out.at.cells k p hp;cases hve;obtain⟨pa,pc,hpn⟩:=ZaJ.shape hnr;rw [hpn] at c5;replace c0:=(hnx.cell (YAC hbb hhi)).trans c0;replace c1:=(hnx.cell (YAC hbb hhi)).trans c1;replace c2:=(hnx.cell (YAC hbb hhi)).trans c2;replace c3:=(hnx.cell (YAC hbb hhi)).trans c3;replace c4:=(hnx.cell (YAC hbb hhi)).trans c4;replace c5:=(hnx.cell (YAC hbb hhi)).trans c5;replace c6:=(hnx.cell (YAC hbb hhi)).trans c6;replace c7:=(hnx.cell (YAC hbb hhi)).trans c7;have htk:=Zmw hp;have htl2:=ZiJ ts (k+1);have hno0:=HT.out.nears p (YAF hp);have hno1:ZaE wr 0 wr.heap.size p:=(hno0.keep (W':=wr) (fun j _ h2 _=>hnx.block j (by omega))).wide (YA _) (by omega);have hpe:p=(p.1,.slice pa p.1.near.length pc):=by rw [<-hpn]
   have hki:(0:Int)<=(k:Int):=by omega
   have hkj:(k:Int)<(ts.length:Int):=by omega
   by_cases hs0:p.1.seq=0
   ·have hd:(p.1.seq==0)=true:=by simpa using hs0
    have hse:seq1 p.1 = { p.1 with seq:=1 }:=by unfold seq1;rw [if_pos hs0]
    have hno:ZaE wr 0 wr.heap.size ({ p.1 with seq:=1 },.slice pa p.1.near.length pc):=by rw [hpe] at hno1;exact hno1
    clear hs0 hpe hno0 hno1 hnr hpn;have BA:Below wr.heap.size wr (wr.alloc (.cells #[.int .i64 p.1.area,.int .i64 p.1.kind,.int .i64 p.1.owner,.int .i64 p.1.key,.int .i64 1,.slice pa p.1.near.length pc,.int .i64 p.1.cost,.bool p.1.far] 132)):=(YAB _ _).alloc (YA _) _;have hno2:ZaE (wr.alloc (.cells #[.int .i64 p.1.area,.int .i64 p.1.kind,.int .i64 p.1.owner,.int .i64 p.1.key,.int .i64 1,.slice pa p.1.near.length pc,.int .i64 p.1.cost,.bool p.1.far] 132)) 0 (wr.alloc (.cells #[.int .i64 p.1.area,.int .i64 p.1.kind,.int .i64 p.1.owner,.int .i64 p.1.key,.int .i64 1,.slice pa p.1.near.length pc,.int .i64 p.1.cost,.bool p.1.far] 132)).heap.size ({ p.1 with seq:=1 },.slice pa p.1.near.length pc):=(hno.keep (W':=(wr.alloc (.cells #[.int .i64 p.1.area,.int .i64 p.1.kind,.int .i64 p.1.owner,.int .i64 p.1.key,.int .i64 1,.slice pa p.1.near.length pc,.int .i64 p.1.cost,.bool p.1.far] 132))) (fun j _ _ h3=>BA.block j h3)).wide (YA _) BA.size;have HP:=hide (ZhE (.slice xa qs.length xc) qs (wr.alloc (.cells #[.int .i64 p.1.area,.int .i64 p.1.kind,.int .i64 p.1.owner,.int .i64 p.1.key,.int .i64 1,.slice pa p.1.near.length pc,.int .i64 p.1.cost,.bool p.1.far] 132)).heap.size ({ p.1 with seq:=1 },.slice pa p.1.near.length pc) (wr.alloc (.cells #[.int .i64 p.1.area,.int .i64 p.1.kind,.int .i64 p.1.owner,.int .i64 p.1.key,.int .i64 1,.slice pa p.1.near.length pc,.int .i64 p.1.cost,.bool p.1.far] 132)) ((hin.below BA (YA _)).wide BA.size) (YA _) (by omega) hno2);have HF2:=hide (show fsts (putL qs ({ p.1 with seq:=1 },.slice pa p.1.near.length pc))=ZdT (fsts ps) ((fsts ts).take (k+1)) by
     rw [ZeF,Zhf (Zcf hp), <-HF.out,hse])
    have htp:=ZhO qs ({ p.1 with seq:=1 },.slice pa p.1.near.length pc);have HB:=hide (hnx.trans (BA.mono hnx.size));have HTK:=hide htk;have htp2:tot (putL qs ({ p.1 with seq:=1 },.slice pa p.1.near.length pc))<=tot qs+(1+p.1.near.length):=htp;obtain⟨Q,hQ⟩:∃ Q,Q=putL qs ({ p.1 with seq:=1 },.slice pa p.1.near.length pc):=⟨_,rfl⟩;rw [<-hQ] at HP HF2 htp2;unfold recC at HP;simp only [] at HP;clear hno hno2 hin hse htp hp HF htk hQ
    go_wp2_with fail
    refine HP.out.mono ?_;rintro e w2 ⟨y,rfl,hy,b2⟩;obtain⟨ya,yc,rfl⟩:=Zac hy.row;have HY:=hide hy;have HB2:=hide (HB.out.trans (b2.mono HB.out.size));clear hy b2 HP HB BA;go_wp2;go_roundw
    case rel=>exact ⟨k+1,_,Q,by omega,by go_num,rfl,HY.out,HF2,by have:=HTK.out;omega,HB2.out⟩
    case measure=>simp [intOf];omega
   ·have hd:(p.1.seq==0)=false:=by simpa using hs0
    have hse:seq1 p.1=p.1:=by unfold seq1;rw [if_neg hs0]
    have hno:ZaE wr 0 wr.heap.size (p.1,.slice pa p.1.near.length pc):=by rw [hpe] at hno1;exact hno1
    clear hs0 hpe hno0 hno1 hnr hpn;have BA:Below wr.heap.size wr (wr.alloc (.cells #[.int .i64 p.1.area,.int .i64 p.1.kind,.int .i64 p.1.owner,.int .i64 p.1.key,.int .i64 p.1.seq,.slice pa p.1.near.length pc,.int .i64 p.1.cost,.bool p.1.far] 132)):=(YAB _ _).alloc (YA _) _;have hno2:ZaE (wr.alloc (.cells #[.int .i64 p.1.area,.int .i64 p.1.kind,.int .i64 p.1.owner,.int .i64 p.1.key,.int .i64 p.1.seq,.slice pa p.1.near.length pc,.int .i64 p.1.cost,.bool p.1.far] 132)) 0 (wr.alloc (.cells #[.int .i64 p.1.area,.int .i64 p.1.kind,.int .i64 p.1.owner,.int .i64 p.1.key,.int .i64 p.1.seq,.slice pa p.1.near.length pc,.int .i64 p.1.cost,.bool p.1.far] 132)).heap.size (p.1,.slice pa p.1.near.length pc):=(hno.keep (W':=(wr.alloc (.cells #[.int .i64 p.1.area,.int .i64 p.1.kind,.int .i64 p.1.owner,.int .i64 p.1.key,.int .i64 p.1.seq,.slice pa p.1.near.length pc,.int .i64 p.1.cost,.bool p.1.far] 132))) (fun j _ _ h3=>BA.block j h3)).wide (YA _) BA.size;have HP:=hide (ZhE (.slice xa qs.length xc) qs (wr.alloc (.cells #[.int .i64 p.1.area,.int .i64 p.1.kind,.int .i64 p.1.owner,.int .i64 p.1.key,.int .i64 p.1.seq,.slice pa p.1.near.length pc,.int .i64 p.1.cost,.bool p.1.far] 132)).heap.size (p.1,.slice pa p.1.near.length pc) (wr.alloc (.cells #[.int .i64 p.1.area,.int .i64 p.1.kind,.int .i64 p.1.owner,.int .i64 p.1.key,.int .i64 p.1.seq,.slice pa p.1.near.length pc,.int .i64 p.1.cost,.bool p.1.far] 132)) ((hin.below BA (YA _)).wide BA.size) (YA _) (by omega) hno2);have HF2:=hide (show fsts (putL qs (p.1,.slice pa p.1.near.length pc))=ZdT (fsts ps) ((fsts ts).take (k+1)) by
     rw [ZeF,Zhf (Zcf hp), <-HF.out,hse])
    have htp:=ZhO qs (p.1,.slice pa p.1.near.length pc);have HB:=hide (hnx.trans (BA.mono hnx.size));have HTK:=hide htk;have htp2:tot (putL qs (p.1,.slice pa p.1.near.length pc))<=tot qs+(1+p.1.near.length):=htp;obtain⟨Q,hQ⟩:∃ Q,Q=putL qs (p.1,.slice pa p.1.near.length pc):=⟨_,rfl⟩;rw [<-hQ] at HP HF2 htp2;unfold recC at HP;simp only [] at HP;clear hno hno2 hin hse htp hp HF htk hQ
    go_wp2_with fail
    refine HP.out.mono ?_;rintro e w2 ⟨y,rfl,hy,b2⟩;obtain⟨ya,yc,rfl⟩:=Zac hy.row;have HY:=hide hy;have HB2:=hide (HB.out.trans (b2.mono HB.out.size));clear hy b2 HP HB BA;go_wp2;go_roundw
    case rel=>exact ⟨k+1,_,Q,by omega,by go_num,rfl,HY.out,HF2,by have:=HTK.out;omega,HB2.out⟩
    case measure=>simp [intOf];omega
  ·have hkn:¬(k:Int)<(ts.length:Int):=by omega
   have HE:=hide (show fsts qs=ZdT (fsts ps) (fsts ts) by have h:=HF.out;rw [YAc (by simp [fsts];omega)] at h;exact h);have HI:=hide hin;have hq:tot qs<=tot ps+tot ts:=by have:=ZiJ ts k;omega
   clear hin HF;go_wp2;go_ret
   first
    | exact ⟨_,qs,rfl,HE.out,HI.out,hq,hnx⟩
    | exact ⟨_,rfl,qs,HE.out,HI.out,hq,hnx⟩
end Go.Proofs.YtdhnddfnckgbjaaGreat
namespace Go.Proofs.YtdhnddfnckgbjaaGreat
open Go.RowKit

open Classical in
noncomputable def Zcd (xs:List RecD) (area src:Int):List WayD:=if h:∃ ds,ZbS xs area src ds then Classical.choose h else []

theorem ZbS.eq {xs:List RecD}{area src:Int}{ds:List WayD}(h:ZbS xs area src ds):ds=Zcd xs area src:=by
 unfold Zcd;rw [dif_pos ⟨ds,h⟩];exact h.unique (Classical.choose_spec (⟨ds,h⟩:∃ ds,ZbS xs area src ds))

def ZeZ (tog:WayD->WayD->WayD)(best:Option WayD)(w:Option WayD):Option WayD:=match w with
 | none=>best
 | some w=>match best with
  | none=>some w
  | some b=>some (tog b w)

def ZaR (ds:List WayD)(to:Int):Option WayD:=ds.find? (fun x=>x.to==to)

end Go.Proofs.YtdhnddfnckgbjaaGreat
namespace Go.Proofs.YtdhnddfnckgbjaaGreat
open Go.RowKit
set_option linter.unusedSimpArgs false
set_option linter.unusedVariables false
set_option maxRecDepth 100000
set_option maxHeartbeats 8000000
variable {a:Act}{K:Act->World->Prop}{Q:Exit->Act->World->Prop}{ps:List QP}{x:LnD}{k lo m:Nat}{o:Oper}{P:Program}{p:QP}{W:World}
theorem Zc2 (W:World)(o:Obj)(k:Nat)(hk:k<W.heap.size):(W.alloc o).heap[k]? = W.heap[k]? := YAI _ _ _ hk
theorem ZeH {w:World}(s x:Operand)(t:TypeId)
  (ho:o.op=.call { callee:=.builtin .append,args:=#[s,x],argTypes:=#[t,t] })
  (base:Nat) (e:TypeId) (i:TypeInfo) (size:Nat) (ht:P.underlying t=some (.slice e)) (hi:P.info? e=some i)
  (v:Value) (n:Nat) (xs:List Value) (hs:a.eval s=v) (hown:w.ownsRow base e size v n xs) (hx:a.eval x=.slice none 0 0)
  (h:K (a.put o.dst v) w):o.wp P a w K Q:=by
 have hrun:=run_append_owned_none (P:=P) (w:=w) base t o.type e i size ht hi v n xs hown;unfold Oper.wp;simp [execOp,ho,resolve,invoke,builtin,hs,hx,hrun,Result.andThen];exact h
theorem Zgy {α:Type}{enc:α->List Value}{sz bytes:Nat}(hlen:∀ l:List α,(flat enc l).length=l.length*sz)(hpos:0<sz)(hone:∀ a,∀ u∈enc a,u.oneCell'=true)(hbb:bytes<=100)(w:World)(s x:Operand)(t:TypeId)
  (ho:o.op=.call { callee:=.builtin .append,args:=#[s,x],argTypes:=#[t,t] }) (base:Nat) (e:TypeId) (ht:P.underlying t=some (.slice e)) (zv:Value) (hzv:zv.cells.size=sz)
  (hinfo:(P.info? e).map (fun i=>(i.zero,i.size,i.bytes))=some (some zv,sz,bytes))
  (v:Value) (l:List α) (hs:a.eval s=v) (hown:w.ownsRow base e sz v l.length (flat enc l))
  (base2:Nat) (v2:Value) (l2:List α) (hx:a.eval x=v2) (hown2:w.ownsRow base2 e sz v2 l2.length (flat enc l2))
  (hl:l.length+l2.length<=1000000000) (hbase:base<=w.heap.size)
  (h:∀ v' w',w'.ownsRow base e sz v' (l++l2).length (flat enc (l++l2))->w.grownBy w' v.ownBlock->K (a.put o.dst v') w'):o.wp P a w K Q:=by
 obtain⟨i0,hi,hz0,hz1,hz2⟩:=info_parts hinfo;rcases hown2.2 with ⟨e1,e2⟩ | ⟨g,cap,cur,e1,_⟩
 ·have e3:l2=[]:=YAq e2;subst e3;refine ZeH s x t ho base e i0 sz ht hi v l.length (flat enc l) hs hown (hx.trans e1) ?_;exact h v w (by simpa using hown) (ZeU w _)
 ·refine wp_append_own w s x t ho base e i0 zv sz bytes ht hi hz0 hz1 hz2 hzv hpos v l.length (flat enc l) hs hown ⟨g,0,none⟩ l2.length cap (flat enc l2) (hx.trans e1) (hlen l2) (hown2.cells (by rw [e1];rfl)) ?_ (by unfold maxLen;omega) ?_ hbase ?_
  ·intro u hu;simp only [flat,List.mem_flatMap] at hu;obtain⟨b,_,hb⟩:=hu;exact hone b u hb
  ·have:(l.length+l2.length)*bytes<=1000000000*100:=Nat.mul_le_mul hl hbb;omega
  ·intro v' w' h1 h2 _;have e1:flat enc l++flat enc l2=flat enc (l++l2):=by rw [ZaQ]
   rw [e1] at h1;exact h v' w' (by simpa using h1) h2
theorem Zfa {α:Type}{enc:α->List Value}{sz bytes:Nat}(hlen:∀ a,(enc a).length=sz)(hpos:0<sz)(y0:α)(hone:∀ u∈enc y0,u.oneCell'=true)(hbb:bytes<=100)(w:World)(s x:Operand)(t:TypeId)
  (ho:o.op=.call { callee:=.builtin .append,args:=#[s,x],argTypes:=#[t,t] }) (base:Nat) (e:TypeId) (ht:P.underlying t=some (.slice e)) (zv:Value) (hzv:zv.cells.size=sz)
  (hinfo:(P.info? e).map (fun i=>(i.zero,i.size,i.bytes))=some (some zv,sz,bytes))
  (v:Value) (l:List α) (hs:a.eval s=v) (hown:w.ownsRow base e sz v l.length (flat enc l))
  (ad:Addr) (c:Nat) (hx:a.eval x=.slice (some ad) 1 c) (hnews:∀ j u,(enc y0)[j]? = some u->w.cell? (ad.add j)=some u)
  (hl:l.length+1<=1000000000) (hbase:base<=w.heap.size)
  (h:∀ v' w' l',Hid (l'=l++[y0])->w'.ownsRow base e sz v' l'.length (flat enc l')->w.grownBy w' v.ownBlock->K (a.put o.dst v') w'):Oper.wp P o a w K Q:=by
 obtain⟨i0,hi,hz0,hz1,hz2⟩:=info_parts hinfo;refine wp_append_own w s x t ho base e i0 zv sz bytes ht hi hz0 hz1 hz2 hzv hpos v l.length (flat enc l) hs hown ad 1 c (enc y0) hx (by rw [hlen];omega) hnews (hone) (by unfold maxLen;omega) ?_ hbase ?_
 ·have:(l.length+1)*bytes<=1000000000*100:=Nat.mul_le_mul hl hbb;omega
 ·intro v' w' h1 h2 _;have e1:flat enc l++enc y0=flat enc (l++[y0]):=by rw [ZaQ];simp [flat]
  rw [e1] at h1;exact h v' w' (l++[y0]) rfl (by simpa using h1) h2
def wOps:Array Oper:=#[{ dst:=some 181,op:=Go.Op.move (Go.Operand.tmp 7),type:=139,pos := "l06_way.go:102",after:=#[],guard:=none }, { dst:=some 182,op:=Go.Op.move (Go.Operand.tmp 22),type:=3,pos := "l06_way.go:102",after:=#[],guard:=none }, { dst:=some 183,op:=Go.Op.move (Go.Operand.tmp 11),type:=37,pos := "l06_way.go:102",after:=#[],guard:=none }, { dst:=some 184,op:=Go.Op.move (Go.Operand.tmp 22),type:=3,pos := "l06_way.go:102",after:=#[],guard:=none }, { dst:=some 185,op:=Go.Op.indexAddr 37 (Go.Operand.tmp 183) (Go.Operand.tmp 184),type:=0,pos := "l06_way.go:102",after:=#[{ on:=2,ground:=Go.Ground.data }, { on:=3,ground:=Go.Ground.data }],guard:=none }, { dst:=some 186,op:=Go.Op.load 3 (Go.Operand.tmp 185),type:=3,pos := "l06_way.go:102",after:=#[{ on:=4,ground:=Go.Ground.data }],guard:=none }, { dst:=some 187,op:=Go.Op.buildSlice 37 0 #[],type:=37,pos := "l06_way.go:102",after:=#[],guard:=none }, { dst:=some 188,op:=Go.Op.move (Go.Operand.tmp 12),type:=182,pos := "l06_way.go:102",after:=#[],guard:=none }, { dst:=some 189,op:=Go.Op.move (Go.Operand.tmp 22),type:=3,pos := "l06_way.go:102",after:=#[],guard:=none }, { dst:=some 190,op:=Go.Op.indexAddr 182 (Go.Operand.tmp 188) (Go.Operand.tmp 189),type:=0,pos := "l06_way.go:102",after:=#[{ on:=7,ground:=Go.Ground.data }, { on:=8,ground:=Go.Ground.data }],guard:=none }, { dst:=some 191,op:=Go.Op.load 37 (Go.Operand.tmp 190),type:=37,pos := "l06_way.go:102",after:=#[{ on:=9,ground:=Go.Ground.data }],guard:=none }, { dst:=some 192,op:=Go.Op.call { callee:=Go.Callee.builtin Go.Builtin.append,args:=#[Go.Operand.tmp 187,Go.Operand.tmp 191],argTypes:=#[37,37] },type:=37,pos := "l06_way.go:102",after:=#[{ on:=6,ground:=Go.Ground.data }, { on:=10,ground:=Go.Ground.data }],guard:=none }, { dst:=some 193,op:=Go.Op.build 144 #[(0,Go.Operand.tmp 182),(1,Go.Operand.tmp 186),(2,Go.Operand.tmp 192)],type:=144,pos := "l06_way.go:102",after:=#[{ on:=1,ground:=Go.Ground.data }, { on:=5,ground:=Go.Ground.data }, { on:=11,ground:=Go.Ground.data }],guard:=none }, { dst:=some 194,op:=Go.Op.buildSlice 139 1 #[(0,Go.Operand.tmp 193)],type:=139,pos := "l06_way.go:102",after:=#[{ on:=12,ground:=Go.Ground.data }],guard:=none }, { dst:=some 195,op:=Go.Op.call { callee:=Go.Callee.builtin Go.Builtin.append,args:=#[Go.Operand.tmp 181,Go.Operand.tmp 194],argTypes:=#[139,139] },type:=139,pos := "l06_way.go:102",after:=#[{ on:=0,ground:=Go.Ground.data }, { on:=13,ground:=Go.Ground.data }, { on:=11,ground:=Go.Ground.chain }],guard:=none }, { dst:=some 7,op:=Go.Op.assign (Go.Operand.tmp 195),type:=139,pos := "l06_way.go:102",after:=#[{ on:=14,ground:=Go.Ground.data }, { on:=14,ground:=Go.Ground.chain }, { on:=0,ground:=Go.Ground.phase }, { on:=1,ground:=Go.Ground.phase }, { on:=2,ground:=Go.Ground.phase }, { on:=3,ground:=Go.Ground.phase }, { on:=4,ground:=Go.Ground.phase }, { on:=5,ground:=Go.Ground.phase }, { on:=6,ground:=Go.Ground.phase }, { on:=7,ground:=Go.Ground.phase }, { on:=8,ground:=Go.Ground.phase }, { on:=9,ground:=Go.Ground.phase }, { on:=10,ground:=Go.Ground.phase }, { on:=11,ground:=Go.Ground.phase }, { on:=12,ground:=Go.Ground.phase }, { on:=13,ground:=Go.Ground.phase }, { on:=14,ground:=Go.Ground.phase }],guard:=none }]
theorem ZoJ (t0 t1 t2 t3 t4 t5 t6 t8 t9 t10 t13 t14 t15 t16 t17 t18 t19 t20 t21 t23 t24 t25 t26 t27 t28 t29 t30 t31 t32 t33 t34 t35 t36 t37 t38 t39 t40 t41 t42 t43 t44 t45 t46 t47 t48 t49 t50 t51 t52 t53 t54 t55 t56 t57 t58 t59 t60 t61 t62 t63 t64 t65 t66 t67 t68 t69 t70 t71 t72 t73 t74 t75 t76 t77 t78 t79 t80 t81 t82 t83 t84 t85 t86 t87 t88 t89 t90 t91 t92 t93 t94 t95 t96 t97 t98 t99 t100 t101 t102 t103 t104 t105 t106 t107 t108 t109 t110 t111 t112 t113 t114 t115 t116 t117 t118 t119 t120 t121 t122 t123 t124 t125 t126 t127 t128 t129 t130 t131 t132 t133 t134 t135 t136 t137 t138 t139 t140 t141 t142 t143 t144 t145 t146 t147 t148 t149 t150 t151 t152 t153 t154 t155 t156 t157 t158 t159 t160 t161 t162 t163 t164 t165 t166 t167 t168 t169 t170 t171 t172 t173 t174 t175 t176 t177 t178 t179 t180 t181 t182 t183 t184 t185 t186 t187 t188 t189 t190 t191 t192 t193 t194 t195 t196:Value)(W0:World)(lo b v:Nat)(cv:Int)(hl:List Int)(pv:Option Addr)(qv:Nat)(ua:Option Addr)(uc:Nat)(qs:List WP)(cb ch:Array Value)(Q:Exit->Act->World->Prop)(ops:Array Oper)(hops:Hid (ops=wOps))(hpan:∀ c a1 a2 w,Q (.panic c) a1 w->Q (.panic c) a2 w)
  (hv:v<=6) (hll:hl.length<=6) (hql:qs.length<=6) (hlo:lo<=W0.heap.size)
  (hb:W0.heap[b]? = some (.cells cb 3)) (hh:W0.heap[b+1]? = some (.cells ch 37)) (h1:W0.cell? ⟨b,v,none⟩=some (.int .i64 cv)) (h2:W0.cell? ⟨b+1,v,none⟩=some (.slice pv hl.length qv))
  (hRV:W0.ownsRow 0 3 1 (.slice pv hl.length qv) hl.length (flat intE hl)) (hWO:WaysOwn W0 lo W0.heap.size (.slice ua qs.length uc) qs)
  (hend:∀ (W4:World) (xa:Option Addr) (xc:Nat) (na:Option Addr) (nc N:Nat),WaysOwn W4 lo W4.heap.size (.slice xa (qs.length+1) xc) (qs++[(⟨(v:Int),cv,hl⟩,.slice na hl.length nc)])->(∀ k,k<W0.heap.size->some k≠(Value.slice ua qs.length uc).ownBlock->W4.heap[k]? = W0.heap[k]?)->Below lo W0 W4->Q .normal { tmps:=#[t0,t1,t2,t3,t4,t5,t6,.slice xa (qs.length+1) xc,t8,t9,t10,.slice (some ⟨b,0,none⟩) 7 7,.slice (some ⟨b+1,0,none⟩) 7 7,t13,t14,t15,t16,t17,t18,t19,t20,t21,.int .i64 (v:Int),t23,t24,t25,t26,t27,t28,t29,t30,t31,t32,t33,t34,t35,t36,t37,t38,t39,t40,t41,t42,t43,t44,t45,t46,t47,t48,t49,t50,t51,t52,t53,t54,t55,t56,t57,t58,t59,t60,t61,t62,t63,t64,t65,t66,t67,t68,t69,t70,t71,t72,t73,t74,t75,t76,t77,t78,t79,t80,t81,t82,t83,t84,t85,t86,t87,t88,t89,t90,t91,t92,t93,t94,t95,t96,t97,t98,t99,t100,t101,t102,t103,t104,t105,t106,t107,t108,t109,t110,t111,t112,t113,t114,t115,t116,t117,t118,t119,t120,t121,t122,t123,t124,t125,t126,t127,t128,t129,t130,t131,t132,t133,t134,t135,t136,t137,t138,t139,t140,t141,t142,t143,t144,t145,t146,t147,t148,t149,t150,t151,t152,t153,t154,t155,t156,t157,t158,t159,t160,t161,t162,t163,t164,t165,t166,t167,t168,t169,t170,t171,t172,t173,t174,t175,t176,t177,t178,t179,t180,.slice ua qs.length uc,.int .i64 (v:Int),.slice (some ⟨b,0,none⟩) 7 7,.int .i64 (v:Int),.pointer (some ⟨b,v,none⟩),.int .i64 cv,.slice (some ⟨W0.heap.size,0,none⟩) 0 0,.slice (some ⟨b+1,0,none⟩) 7 7,.int .i64 (v:Int),.pointer (some ⟨b+1,v,none⟩),.slice pv hl.length qv,.slice na hl.length nc,.agg #[.int .i64 (v:Int),.int .i64 cv,.slice na hl.length nc],.slice (some ⟨N,0,none⟩) 1 1,.slice xa (qs.length+1) xc,t196],defers:=[] } W4):
  wpAnyH Tryz.prog .any ops Q (fun W=>W.cell? ⟨b,v,none⟩=some (.int .i64 cv)/\W.cell? ⟨b+1,v,none⟩=some (.slice pv hl.length qv)) 16 (Array.replicate 16 false) { tmps:=#[t0,t1,t2,t3,t4,t5,t6,.slice ua qs.length uc,t8,t9,t10,.slice (some ⟨b,0,none⟩) 7 7,.slice (some ⟨b+1,0,none⟩) 7 7,t13,t14,t15,t16,t17,t18,t19,t20,t21,.int .i64 (v:Int),t23,t24,t25,t26,t27,t28,t29,t30,t31,t32,t33,t34,t35,t36,t37,t38,t39,t40,t41,t42,t43,t44,t45,t46,t47,t48,t49,t50,t51,t52,t53,t54,t55,t56,t57,t58,t59,t60,t61,t62,t63,t64,t65,t66,t67,t68,t69,t70,t71,t72,t73,t74,t75,t76,t77,t78,t79,t80,t81,t82,t83,t84,t85,t86,t87,t88,t89,t90,t91,t92,t93,t94,t95,t96,t97,t98,t99,t100,t101,t102,t103,t104,t105,t106,t107,t108,t109,t110,t111,t112,t113,t114,t115,t116,t117,t118,t119,t120,t121,t122,t123,t124,t125,t126,t127,t128,t129,t130,t131,t132,t133,t134,t135,t136,t137,t138,t139,t140,t141,t142,t143,t144,t145,t146,t147,t148,t149,t150,t151,t152,t153,t154,t155,t156,t157,t158,t159,t160,t161,t162,t163,t164,t165,t166,t167,t168,t169,t170,t171,t172,t173,t174,t175,t176,t177,t178,t179,t180,t181,t182,t183,t184,t185,t186,t187,t188,t189,t190,t191,t192,t193,t194,t195,t196],defers:=[] } W0:=by
 have hS0:W0.cell? ⟨b,v,none⟩=some (.int .i64 cv)/\W0.cell? ⟨b+1,v,none⟩=some (.slice pv hl.length qv):=⟨h1,h2⟩;have hS1:∀ W:World,(∀ k,k<W0.heap.size->W.heap[k]? = W0.heap[k]?)->W.cell? ⟨b,v,none⟩=some (.int .i64 cv)/\W.cell? ⟨b+1,v,none⟩=some (.slice pv hl.length qv):=fun W hk=>⟨(World.cell?_of_block (hk b (Zab hb))).trans h1,(World.cell?_of_block (hk (b+1) (Zab hh))).trans h2⟩;have hvi:(0:Int)<=(v:Int):=by omega
 have hvj:(v:Int)<7:=by omega
 show wpAnyH Tryz.prog .any ops Q _ 16 #[false,false,false,false,false,false,false,false,false,false,false,false,false,false,false,false] _ W0;refine Zax 0 ?_ ?_ ?_ (by rw [hops.out];kernel_rfl) ?_ ?_ (by assumption) ?_
 rotate_left 2
 ·rw [hops.out];unfold wOps;simp only [getS];rfl
 ·intro W hW;obtain⟨k1,k2⟩:=hW;go_simp <;> with_reducible rfl
 ·exact fun c _ w h=>hpan c _ _ w h
 try simp only [putS]
 refine Zax 1 ?_ ?_ ?_ (by rw [hops.out];kernel_rfl) ?_ ?_ (by assumption) ?_
 rotate_left 2
 ·rw [hops.out];unfold wOps;simp only [getS];rfl
 ·intro W hW;obtain⟨k1,k2⟩:=hW;go_simp <;> with_reducible rfl
 ·exact fun c _ w h=>hpan c _ _ w h
 try simp only [putS]
 refine Zax 2 ?_ ?_ ?_ (by rw [hops.out];kernel_rfl) ?_ ?_ (by assumption) ?_
 rotate_left 2
 ·rw [hops.out];unfold wOps;simp only [getS];rfl
 ·intro W hW;obtain⟨k1,k2⟩:=hW;go_simp <;> with_reducible rfl
 ·exact fun c _ w h=>hpan c _ _ w h
 try simp only [putS]
 refine Zax 3 ?_ ?_ ?_ (by rw [hops.out];kernel_rfl) ?_ ?_ (by assumption) ?_
 rotate_left 2
 ·rw [hops.out];unfold wOps;simp only [getS];rfl
 ·intro W hW;obtain⟨k1,k2⟩:=hW;go_simp <;> with_reducible rfl
 ·exact fun c _ w h=>hpan c _ _ w h
 try simp only [putS]
 refine Zax 4 ?_ ?_ ?_ (by rw [hops.out];kernel_rfl) ?_ ?_ (by assumption) ?_
 rotate_left 2
 ·rw [hops.out];unfold wOps;simp only [getS];rfl
 ·intro W hW;obtain⟨k1,k2⟩:=hW;go_simp <;> with_reducible rfl
 ·exact fun c _ w h=>hpan c _ _ w h
 try simp only [putS]
 refine Zax 5 ?_ ?_ ?_ (by rw [hops.out];kernel_rfl) ?_ ?_ (by assumption) ?_
 rotate_left 2
 ·rw [hops.out];unfold wOps;simp only [getS];rfl
 ·intro W hW;obtain⟨k1,k2⟩:=hW;go_simp <;> with_reducible rfl
 ·exact fun c _ w h=>hpan c _ _ w h
 try simp only [putS]
 refine Zax 7 ?_ ?_ ?_ (by rw [hops.out];kernel_rfl) ?_ ?_ (by assumption) ?_
 rotate_left 2
 ·rw [hops.out];unfold wOps;simp only [getS];rfl
 ·intro W hW;obtain⟨k1,k2⟩:=hW;go_simp <;> with_reducible rfl
 ·exact fun c _ w h=>hpan c _ _ w h
 try simp only [putS]
 refine Zax 8 ?_ ?_ ?_ (by rw [hops.out];kernel_rfl) ?_ ?_ (by assumption) ?_
 rotate_left 2
 ·rw [hops.out];unfold wOps;simp only [getS];rfl
 ·intro W hW;obtain⟨k1,k2⟩:=hW;go_simp <;> with_reducible rfl
 ·exact fun c _ w h=>hpan c _ _ w h
 try simp only [putS]
 refine Zax 9 ?_ ?_ ?_ (by rw [hops.out];kernel_rfl) ?_ ?_ (by assumption) ?_
 rotate_left 2
 ·rw [hops.out];unfold wOps;simp only [getS];rfl
 ·intro W hW;obtain⟨k1,k2⟩:=hW;go_simp <;> with_reducible rfl
 ·exact fun c _ w h=>hpan c _ _ w h
 try simp only [putS]
 refine Zax 10 ?_ ?_ ?_ (by rw [hops.out];kernel_rfl) ?_ ?_ (by assumption) ?_
 rotate_left 2
 ·rw [hops.out];unfold wOps;simp only [getS];rfl
 ·intro W hW;obtain⟨k1,k2⟩:=hW;go_simp <;> with_reducible rfl
 ·exact fun c _ w h=>hpan c _ _ w h
 try simp only [putS]
 refine ZdH 6 (oi:=?_) ?_ (by rw [hops.out];kernel_rfl) ?_ ?_
 rotate_left 1
 ·rw [hops.out];unfold wOps;simp only [getS];rfl
 ·rw [hops.out];kernel_rfl
 intro K hK;go_simp;refine hK.out _ _ (hS1 _ (Zc2 W0 _)) (fun hS=>?_);clear hK K
 try simp only [putS]
 refine ZdH 11 (oi:=?_) ?_ (by rw [hops.out];kernel_rfl) ?_ ?_
 rotate_left 1
 ·rw [hops.out];unfold wOps;simp only [getS];rfl
 ·rw [hops.out];kernel_rfl
 intro K hK;refine Zgy ZcS (by omega) Zcj (by omega) _ _ _ 37 rfl W0.heap.size 3 Tryz.underlying37 (.int .i64 0) rfl Tryz.info3 (.slice (some ⟨W0.heap.size,0,none⟩) 0 0) [] rfl (Zck _ _ _ rfl (YA _)) 0 (.slice pv hl.length qv) hl rfl (hRV.alloc _) (by simp;omega) (by simp) ?_;intro x W2 hox hgrow;rw [List.nil_append] at hox;obtain⟨na,nc,rfl⟩:=Zac hox;simp only [Value.ownBlock] at hgrow;have k12:∀ k,k<W0.heap.size->W2.heap[k]? = W0.heap[k]? := fun k hk=>(hgrow.block k (by simp;omega) (by simp;omega)).trans (Zc2 W0 _ k hk);have s12:W0.heap.size<W2.heap.size:=by have:=hgrow.size;simp at this;omega
 have B2:Below W0.heap.size W0 W2:=((YAB _ _).alloc (YA _) _).grown hgrow (by simp) (fun k hk=>by simp at hk;omega);refine hK.out _ _ (hS1 _ k12) (fun hS=>?_);clear hK K
 try simp only [putS]
 refine Zax 12 ?_ ?_ ?_ (by rw [hops.out];kernel_rfl) ?_ ?_ (by assumption) ?_
 rotate_left 2
 ·rw [hops.out];unfold wOps;simp only [getS];rfl
 ·intro W hW;obtain⟨k1,k2⟩:=hW;go_simp <;> with_reducible rfl
 ·exact fun c _ w h=>hpan c _ _ w h
 try simp only [putS]
 refine ZdH 13 (oi:=?_) ?_ (by rw [hops.out];kernel_rfl) ?_ ?_
 rotate_left 1
 ·rw [hops.out];unfold wOps;simp only [getS];rfl
 ·rw [hops.out];kernel_rfl
 intro K hK;go_simp;refine hK.out _ _ (hS1 _ (fun k hk=>(Zc2 W2 _ k (by omega)).trans (k12 k hk))) (fun hS=>?_);clear hK K
 try simp only [putS]
 refine ZdH 14 (oi:=?_) ?_ (by rw [hops.out];kernel_rfl) ?_ ?_
 rotate_left 1
 ·rw [hops.out];unfold wOps;simp only [getS];rfl
 ·rw [hops.out];kernel_rfl
 intro K hK;have rw3:=Zad hWO.row (B2.alloc B2.size (.cells #[.int .i64 (v:Int),.int .i64 cv,.slice na hl.length nc] 144)) (YA _);refine Zfa Zeo (by omega) (⟨(v:Int),cv,hl⟩,.slice na hl.length nc) (Zhu _ _ _ _) (by omega) _ _ _ 139 rfl lo 144 Tryz.underlying139 (.agg (wayC Zce (.slice none 0 0))) rfl Tryz.infoWay (.slice ua qs.length uc) qs rfl rw3 ⟨W2.heap.size,0,none⟩ 1 rfl (Zak (cs:=encW (⟨(v:Int),cv,hl⟩,.slice na hl.length nc))) (by omega) (by simp;omega) ?_;intro x W4 l' hl' hox2 hgrow2;rw [hl'.out] at hox2;have ow:=hWO.push (p:=(⟨(v:Int),cv,hl⟩,.slice na hl.length nc)) (B2.alloc B2.size _) hlo ⟨hox.alloc (.cells #[.int .i64 (v:Int),.int .i64 cv,.slice na hl.length nc] 144),fun k hk=>by have:=(hox.lt k hk).2;simp;omega⟩ (by simpa using hox2) hgrow2;have k4:∀ k,k<W0.heap.size->some k≠(Value.slice ua qs.length uc).ownBlock->W4.heap[k]? = W0.heap[k]? := fun k hk hne=>(hgrow2.block k (by simp;omega) hne).trans ((Zc2 W2 _ k (by omega)).trans (k12 k hk));have B4:Below lo W0 W4:=((B2.alloc B2.size _).mono hlo).grown hgrow2 (by simp;omega) (fun k hk=>(hWO.row.lt k hk).1);rw [YAM,List.length_singleton] at hox2;obtain⟨xa,xc,rfl⟩:=Zac hox2;refine hK.out _ _ ⟨?_,?_⟩ (fun hS=>?_)
 ·rw [World.cell?_of_block (k4 b (Zab hb) (Zas hWO.row hb (by decide)))];exact h1
 ·rw [World.cell?_of_block (k4 (b+1) (Zab hh) (Zas hWO.row hh (by decide)))];exact h2
 clear hK K
 try simp only [putS]
 refine Zax 15 ?_ ?_ ?_ (by rw [hops.out];kernel_rfl) ?_ ?_ (by assumption) ?_
 rotate_left 2
 ·rw [hops.out];unfold wOps;simp only [getS];rfl
 ·intro W hW;obtain⟨k1,k2⟩:=hW;go_simp <;> with_reducible rfl
 ·exact fun c _ w h=>hpan c _ _ w h
 try simp only [putS]
 refine wpAnyH_done (by rw [hops.out];kernel_rfl) ?_ _;exact hend _ xa xc na nc W2.heap.size ow k4 B4
def lnR (q:RtD):LnD:=⟨q.thing,q.to,q.hops⟩
def tabS (acc:List LnD)(x:LnD):List LnD:=if idxZ acc x.thing x.to<0 then acc++[x] else acc
def tabD (xs:List LnD):List LnD:=xs.foldl tabS []
theorem Zmo {xs:List LnD}(h:xs[k]? = some x):tabD (xs.take (k+1))=tabS (tabD (xs.take k)) x:=by
 obtain⟨hk,e⟩:=YAD.1 h;unfold tabD;rw [YAJ hk,List.foldl_append,e];rfl
theorem Zjw {acc:List LnD}(h:0<=idxZ acc x.thing x.to):tabS acc x=acc:=if_neg (by omega)
theorem ZhI {acc:List LnD}(h:idxZ acc x.thing x.to = -1):tabS acc x=acc++[x]:=if_pos (by omega)
theorem Zi8 (l:List LnD)(t:Bool)(z:Int):idxZ l t z = -1\/0<=idxZ l t z:=by
 rcases Zb4 l t z with h | ⟨k,x,h,_⟩
 ·exact .inl h
 ·exact .inr (by omega)
structure TmAt (W:World) (lo m:Nat) (ps:List QP) (k:Nat) (es:List (PS × Value)):Prop where
 lm:LmAt W lo W.heap.size m (es.map ent9)
 tab:es.map (fun x=>x.1.2.1)=tabD ((ps.take k).map (fun p=>lnR p.1))
 asc:(es.map (fun x=>psP x.1)).Pairwise (fun a b=>a.1<b.1)
 lt:∀ x∈es,x.1.1<(k:Int)
 src:∀ x∈es,∃ p∈ps,(psP x.1).2.2=p.2/\x.1.2.1.hops=p.1.hops
 len:es.length<=k
theorem TmAt.lns {es:List (PS × Value)}(h:TmAt W lo m ps k es):ZbB (es.map ent9)=tabD ((ps.take k).map (fun p=>lnR p.1)):=by
 rw [<-h.tab];unfold ZbB ent9;rw [YAa];rfl
theorem Zjd (h:ps[k]? = some p):tabD ((ps.take (k+1)).map (fun p=>lnR p.1))=tabS (tabD ((ps.take k).map (fun p=>lnR p.1))) (lnR p.1):=by
 have h1:(ps.map (fun p=>lnR p.1))[k]? = some (lnR p.1):=by rw [YAZ,h];rfl
 have:=Zmo h1;rw [<-List.map_take, <-List.map_take] at this;exact this
theorem TmAt.pass {es:List (PS × Value)}(h:TmAt W lo m ps k es)(hp:ps[k]? = some p) (hi:0<=idxZ (tabD ((ps.take k).map (fun p=>lnR p.1))) p.1.thing p.1.to):TmAt W lo m ps (k+1) es where
 lm:=h.lm
 tab:=by rw [Zjd hp,Zjw hi];exact h.tab
 asc:=h.asc
 lt:=fun x hx=>by have:=h.lt x hx;omega
 src:=h.src
 len:=by have:=h.len;omega
theorem TmAt.push {W':World}{es:List (PS × Value)}{a:Option Addr}{n c:Nat}{v:Value}(h:TmAt W lo m ps k es)(hp:ps[k]? = some p)(hpe:p.2=.slice a n c) (hi:idxZ (tabD ((ps.take k).map (fun p=>lnR p.1))) p.1.thing p.1.to = -1)
  (hl:LmAt W' lo W'.heap.size m (es.map ent9++[(((k:Int),(lnR p.1,.slice a n c)),v)])):TmAt W' lo m ps (k+1) (es++[(((k:Int),lnR p.1,a,n,c),v)]) where
 lm:=by rw [YAW];exact hl
 tab:=by rw [Zjd hp,ZhI hi,YAW,h.tab];rfl
 asc:=by
  rw [YAW,YAP];refine⟨h.asc,by simp,fun x hx y hy=>?_⟩;obtain⟨z,hz,rfl⟩:=YAV.1 hx;have:y=psP ((k:Int),lnR p.1,a,n,c):=by simpa using hy
  subst this;exact h.lt z hz
 lt:=fun x hx=>by
  rcases YAH.1 hx with h1 | h1
  ·have:=h.lt x h1;omega
  ·have:x=(((k:Int),lnR p.1,a,n,c),v):=by simpa using h1
   subst this;show (k:Int)<((k+1:Nat):Int);omega
 src:=fun x hx=>by
  rcases YAH.1 hx with h1 | h1
  ·exact h.src x h1
  ·have:x=(((k:Int),lnR p.1,a,n,c),v):=by simpa using h1
   subst this;exact⟨p,YAF hp,hpe.symm,rfl⟩
 len:=by rw [YAM];have:=h.len;simp;omega
structure RtsW (W:World) (lo hi:Nat) (v:Value) (ps:List QP):Prop where
 here:ZdX W v ps hi
 nears:∀ p∈ps,Za0 W lo hi p
theorem RtsOwn.weak {hi:Nat}{v:Value}(h:RtsOwn W lo hi v ps):RtsW W lo hi v ps:=⟨h.at,h.nears⟩
theorem ZkC (v:Value)(ps:List QP)(lo hi:Nat)(w:World)(hv:RtsW w lo hi v ps)(hhi:hi<=w.heap.size)(hn:totQ ps<=1048576):
  Calls Tryz.prog 10 #[v] w fun e w'=>∃ u qs,e=.returned u/\Zag qs=tabD (ps.map (fun p=>lnR p.1))/\LnsOwn w' w.heap.size w'.heap.size u qs/\Below w.heap.size w w':=by
 have hnl:=ZhM ps;obtain⟨a1,c1,rfl⟩:=hv.here.shape;have HV:=hide hv;clear hv;have hmk:(Instr.makeMap 43 none).run Tryz.prog w=.ok (.map (some w.heap.size)) (w.alloc (.map #[] 0)):=by rfl
 have bM:=(YAB w.heap.size w).alloc (YA _) (.map #[] 0);have lM:=(LmAt.made w).wide (hi':=(w.alloc (.map #[] 0)).heap.size) (by simp);obtain⟨WM,hWM⟩:∃ WM,WM=w.alloc (.map #[] 0):=⟨_,rfl⟩;rw [<-hWM] at bM lM hmk;clear hWM;have T0:=hide (show TmAt WM w.heap.size w.heap.size ps 0 [] from ⟨lM,by simp [tabD],by simp,by simp,by simp,by simp⟩);clear lM
 go_enter Tryz.func10,Tryz.ntmps10
 go_wp2;clear hmk
 go_loopw [10] (fun i wr=>∃ (k:Nat) (es:List (PS × Value)),k<=ps.length/\i=.int .i64 (k:Int)/\Hid (TmAt wr w.heap.size w.heap.size ps k es)/\Below w.heap.size w wr) (fun i _=>ps.length-(intOf i).toNat)
 case atStart=>exact ⟨0,[],by omega,rfl,T0,bM⟩
 case round=>
  obtain⟨k,es,hk,rfl,HT,hnx⟩:=hrel;have hsz:=hnx.size;by_cases hlt:k<ps.length
  ·obtain ⟨p,hp⟩:∃ p,ps[k]? = some p:=⟨ps[k],YAA hlt⟩;obtain⟨b,off,cp,hve,hbb,d0,d1,d2,d3,d4,d5,hh⟩:=HV.out.here.cells k p hp;cases hve;have hbw:b<w.heap.size:=by omega
   obtain⟨ha,hc,hpe⟩:=Zac (HV.out.nears p (YAF hp)).1;rw [hpe] at d5;replace d0:=(hnx.cell hbw).trans d0;replace d1:=(hnx.cell hbw).trans d1;replace d2:=(hnx.cell hbw).trans d2;replace d3:=(hnx.cell hbw).trans d3;replace d4:=(hnx.cell hbw).trans d4;replace d5:=(hnx.cell hbw).trans d5;have hki:(0:Int)<=(k:Int):=by omega
   have hkj:(k:Int)<(ps.length:Int):=by omega
   have HP:=hide hp;have HPE:=hide hpe;have HK:=hide (fun W=>Zcs (lnR p.1) (.slice ha p.1.hops.length hc) W);have HLN:=hide (show lnR p.1=⟨p.1.thing,p.1.to,p.1.hops⟩ from rfl);rw [HLN.out] at HK;simp only [] at HK;clear hp hpe hh
   go_wp2_with fail
   have bb:=ZaK (w:=wr) (.cells #[.bool p.1.thing,.int .i64 p.1.to,.int .i64 p.1.kind,.int .i64 p.1.cost,.int .i64 p.1.far,.slice ha p.1.hops.length hc] 57) (.cells #[.bool p.1.thing,.int .i64 p.1.to,.slice ha p.1.hops.length hc] 39);have hbx:((wr.alloc (.cells #[.bool p.1.thing,.int .i64 p.1.to,.int .i64 p.1.kind,.int .i64 p.1.cost,.int .i64 p.1.far,.slice ha p.1.hops.length hc] 57)).alloc (.cells #[.bool p.1.thing,.int .i64 p.1.to,.slice ha p.1.hops.length hc] 39)).heap[wr.heap.size+1]? = some (.cells #[.bool p.1.thing,.int .i64 p.1.to,.slice ha p.1.hops.length hc] 39):=by
    have:=YAE (wr.alloc (.cells #[.bool p.1.thing,.int .i64 p.1.to,.int .i64 p.1.kind,.int .i64 p.1.cost,.int .i64 p.1.far,.slice ha p.1.hops.length hc] 57)) (.cells #[.bool p.1.thing,.int .i64 p.1.to,.slice ha p.1.hops.length hc] 39);simpa using this
   obtain⟨W5,hW5⟩:∃ W5,W5=(wr.alloc (.cells #[.bool p.1.thing,.int .i64 p.1.to,.int .i64 p.1.kind,.int .i64 p.1.cost,.int .i64 p.1.far,.slice ha p.1.hops.length hc] 57)).alloc (.cells #[.bool p.1.thing,.int .i64 p.1.to,.slice ha p.1.hops.length hc] 39):=⟨_,rfl⟩;rw [<-hW5] at bb hbx |-;clear hW5;have b5s:=bb.size;have hlx:=Zab hbx;have HT5:=hide ((HT.out.lm.below bb (YA _)).wide b5s);refine (HK.out W5).mono ?_;rintro e w6 ⟨rfl,b6⟩;have b6s:=b6.size;have HT6:=hide ((HT5.out.below b6 (YA _)).wide b6s);have hbx6:=(b6.block _ hlx).trans hbx;have HTN:=hide (HT.out.lns)
   go_wp2_with fail
   refine (ZfW w.heap.size w.heap.size (es.map ent9) p.1.thing p.1.to w6 HT6.out).mono ?_;rintro e w7 ⟨rfl,b7⟩;have b7s:=b7.size;have HT7:=hide ((HT6.out.below b7 (YA _)).wide b7s);have hbx7:=(b7.block _ (by omega)).trans hbx6;have bw7:Below wr.heap.size wr w7:=bb.trans ((b6.trans (b7.mono b6s)).mono b5s);have bww7:Below w.heap.size w w7:=hnx.trans (bw7.mono hsz);have HT9:=hide (show TmAt w7 w.heap.size w.heap.size ps k es from ⟨HT7.out,HT.out.tab,HT.out.asc,HT.out.lt,HT.out.src,HT.out.len⟩);rcases Zi8 (ZbB (es.map ent9)) p.1.thing p.1.to with hi | hi
   ·rw [YAo (show ¬0<=idxZ (ZbB (es.map ent9)) p.1.thing p.1.to by omega)];have y0:=Zaa hbx7 0;have y1:=Zaa hbx7 1;have y2:=Zaa hbx7 2;simp at y0 y1 y2;have HPT:=hide (Znu w.heap.size w.heap.size (es.map ent9) (lnR p.1) (.slice ha p.1.hops.length hc) (k:Int) w7 HT7.out hi);unfold lnC at HPT;rw [HLN.out] at HPT;simp only [] at HPT;have HI:=hide hi;clear hi hbx hbx6 hbx7 b6 b7 bb HT5 HT6 HT HT7 HK
    go_wp2_with fail
    refine HPT.out.mono ?_;rintro e w8 ⟨rfl,v8,hl8,hg8⟩;have HT8:=hide (HT9.out.push HP.out HPE.out (by rw [<-HTN.out];exact HI.out) hl8);have hb8:Below w.heap.size w w8:=bww7.grown hg8 bww7.size (fun j hj=>by simp at hj;omega);clear hl8 hg8 HPT;go_wp2;go_roundw
    case rel=>exact ⟨k+1,_,by omega,by go_num,HT8,hb8⟩
    case measure=>simp [intOf];omega
   ·rw [YAi hi];have HT8:=hide (HT9.out.pass HP.out (by rw [<-HTN.out];exact hi));clear hi hbx hbx6 hbx7 b6 b7 bb HT5 HT6 HT HT7 HK;go_wp2;go_roundw
    case rel=>exact ⟨k+1,es,by omega,by go_num,HT8,bww7⟩
    case measure=>simp [intOf];omega
  ·have hkn:k=ps.length:=by omega
   have KN:=hide hkn;clear hkn;have HLI:=hide (Zm6 w.heap.size w.heap.size es lo wr HT.out.lm (by have:=HT.out.len;omega) (fun x hx=>by
    obtain⟨p,hp,h1,h2⟩:=HT.out.src x hx;rw [h1,h2];exact Zad (HV.out.nears p hp).1 hnx (by omega)) (fun x hx=>by
    obtain⟨p,hp,h1,h2⟩:=HT.out.src x hx;rw [h2];have:=Zkb hp;omega) HT.out.asc)
   go_wp2_with fail
   refine HLI.out.mono ?_;rintro e w2 ⟨u,qs,rfl,hq,ho,b2⟩;have HQ:=hide hq;have HO:=hide ho;clear hq ho;go_wp2;go_ret;refine⟨u,qs,rfl,?_,HO.out.wide hsz (YA _),hnx.trans (b2.mono hsz)⟩;rw [HQ.out,HT.out.tab,KN.out,YAX]
theorem LmAt.look2 {hi:Nat}{es:List (PlP × Value)}(h:LmAt W lo hi m es)(t:Bool)(z:Int):
  (idxZ (ZbB es) t z = -1/\(Instr.lookup 43 (.map (some m)) (.agg #[.bool t,.int .i64 z]) false).run Tryz.prog W=.ok (.slice none 0 0) W) \/
  ∃ (k:Nat) (y:PlP × Value),es[k]? = some y/\idxZ (ZbB es) t z=(k:Int)/\y.1.2.1.thing=t/\y.1.2.1.to=z/\(Instr.lookup 43 (.map (some m)) (.agg #[.bool t,.int .i64 z]) false).run Tryz.prog W=.ok y.2 W:=by
 have h1:=Zey W m (Zbv 0 es).toArray es.length (ksOf es) t z h.map (Zdu 0 es);unfold kV at h1;rw [h1];rcases Zb4 (ZbB es) t z with hk | ⟨k,x,hk,hx,hl⟩
 ·rw [ZdM hk];exact .inl ⟨hk,rfl⟩
 ·have e1:Zbe (ksOf es) t z=some k:=by
   rw [ZfP];unfold idxZ at hk;cases e:(ZbB es).findIdx? (isLn t z) with
   | none=>rw [e] at hk;simp at hk
   | some i=>rw [e] at hk;simp only [] at hk;have e9:i=k:=(by omega);rw [e9]
  have hx2:=hx;unfold ZbB at hx2;rw [YAZ] at hx2;cases hy:es[k]? with
  | none=>rw [hy] at hx2;simp at hx2
  | some y=>
   rw [hy] at hx2;simp at hx2;subst hx2;rw [e1];simp only [Option.bind_some,List.toList_toArray,Zdt,hy,Option.map_some];simp only [isLn,YAO,beq_iff_eq] at hl;exact .inr ⟨k,y,hy,hk,hl.1,hl.2,rfl⟩
theorem Zlr (pl:Int)(x y:LnD)(u1 u2:Value)(q:Nat)(w:World)(h1:Zal w u1 x.hops w.heap.size)(h2:Zal w u2 y.hops w.heap.size)(hl:x.hops.length<=1048576)(hq:w.heap[q]? = some (.cells #[.bool y.thing,.int .i64 y.to,u2] 39)):
  Calls Tryz.prog 46 #[.agg #[.int .i64 pl,.bool x.thing,.int .i64 x.to,u1],.pointer (some ⟨q,0,none⟩)] w fun e w'=>e=.returned (.bool (decide (x.hops=y.hops)))/\Below w.heap.size w w':=by
 obtain⟨a1,c1,rfl⟩:=Zal.shape h1;obtain⟨a2,c2,rfl⟩:=Zal.shape h2;obtain⟨R,hR⟩:∃ R,R=decide (x.hops=y.hops):=⟨_,rfl⟩;have HE:=hide (fun W (hb:Below w.heap.size w W)=>Zjr (.slice a1 x.hops.length c1) (.slice a2 y.hops.length c2) x.hops y.hops W (Zal.then h1 hb).ints (Zal.then h2 hb).ints hl);rw [<-hR] at HE |-;have hpl:=Zab hq;have hpn:¬q=w.heap.size:=by omega
 have c2':=Zaa hq 2;simp at c2';clear h1 h2 hR hq
 go_enter Tryz.func46,Tryz.ntmps46
 go_wp2_with fail
 refine (HE.out _ ((YAB _ _).alloc (YA _) _)).mono ?_;rintro e w1 ⟨rfl,bb1⟩;have bw1:Below w.heap.size w w1:=((YAB _ _).alloc (YA _) _).trans (bb1.mono (by simp));clear bb1 c2';go_wp2;go_ret;exact⟨rfl,bw1⟩
theorem Zkn (q:Nat)(w:World):
  Calls Tryz.prog 45 #[.slice none 0 0,.func (.func 46) #[] #[.pointer (some ⟨q,0,none⟩)]] w fun e w'=>e=.returned (.bool false)/\Below w.heap.size w w':=by
 have HI:∀ W,Calls Tryz.prog 64 #[.slice none 0 0,.func (.func 46) #[] #[.pointer (some ⟨q,0,none⟩)]] W fun e w'=>e=.returned (.int .i64 (-1))/\Below W.heap.size W w':=by
  intro W
  go_enter Tryz.func64,Tryz.ntmps64
  go_wp2;refine wp_loop_rounds 1 ?_;rw [rounds_succ];go_wp2;go_ret;exact⟨rfl,YAB _ _⟩
 have HI:=hide HI
 go_enter Tryz.func45,Tryz.ntmps45
 go_wp2_with fail
 refine (HI.out _).mono ?_;rintro e w1 ⟨rfl,bb1⟩;go_wp2;go_ret;exact⟨rfl,bb1⟩
theorem Zko (v:Value)(lo:Nat)(pl:Int)(x y:LnD)(u1 u2:Value)(q:Nat)(w:World) (ho:w.ownsRow lo 68 4 v 1 (Zbu ((pl,(x,u1)):PlP))) (h1:Zal w u1 x.hops w.heap.size) (h2:Zal w u2 y.hops w.heap.size) (hl:x.hops.length<=1048576) (hq:w.heap[q]? = some (.cells #[.bool y.thing,.int .i64 y.to,u2] 39)):
  Calls Tryz.prog 45 #[v,.func (.func 46) #[] #[.pointer (some ⟨q,0,none⟩)]] w fun e w'=>e=.returned (.bool (decide (x.hops=y.hops)))/\Below w.heap.size w w':=by
 obtain⟨R,hR⟩:∃ R,R=decide (x.hops=y.hops):=⟨_,rfl⟩;obtain⟨g,cap,rfl,hg1,hg2⟩:=ZbC ho (by omega);have e0:=ho.cellAt 0 (by omega);have e1:=ho.cellAt 1 (by omega);have e2:=ho.cellAt 2 (by omega);have e3:=ho.cellAt 3 (by omega);simp [Zbu] at e0 e1 e2 e3;obtain⟨a1,c1,rfl⟩:=Zal.shape h1;have HC:=hide (fun W (hb:Below w.heap.size w W)=>Zlr pl x y (.slice a1 x.hops.length c1) u2 q W (Zal.then h1 hb) (Zal.then h2 hb) hl ((hb.block _ (Zab hq)).trans hq));rw [<-hR] at HC |-;clear h1 h2 hq hR ho;have HI:Calls Tryz.prog 64 #[.slice (some ⟨g,0,none⟩) 1 cap,.func (.func 46) #[] #[.pointer (some ⟨q,0,none⟩)]] w fun e w'=>e=.returned (.int .i64 (if R then 0 else -1))/\Below w.heap.size w w':=by
  go_enter Tryz.func64,Tryz.ntmps64
  go_wp2;refine wp_loop_rounds 2 ?_;rw [rounds_succ]
  go_wp2_with fail
  refine (HC.out _ (YAB _ _)).mono ?_;rintro e w1 ⟨rfl,bb1⟩;clear e0 e1 e2 e3;cases R
  ·go_wp2;rw [rounds_succ];go_wp2;go_ret;exact⟨rfl,bb1⟩
  ·go_wp2;go_ret;exact⟨rfl,bb1⟩
 have HI:=hide HI;clear e0 e1 e2 e3;cases R
 all_goals
  go_enter Tryz.func45,Tryz.ntmps45
  go_wp2_with fail
  refine HI.out.mono ?_;rintro e w1 ⟨rfl,bb1⟩;go_wp2;go_ret;exact⟨rfl,bb1⟩
theorem Zof (lo m:Nat)(es:List (PlP × Value))(y:LnD)(u:Value)(w:World)(h:LmAt w lo w.heap.size m es)(hk:ZaP (ZbB es))(hh:∀ x∈es,Zal w x.1.2.2 x.1.2.1.hops w.heap.size/\x.1.2.1.hops.length<=1048576)(hy:Zal w u y.hops w.heap.size):
  Calls Tryz.prog 33 #[.map (some m),.agg (lnC y u)] w fun e w'=>e=.returned (.bool ((ZbB es).contains y))/\Below w.heap.size w w':=by
 obtain⟨a1,c1,rfl⟩:=Zal.shape hy;have bb:=(YAB w.heap.size w).alloc (YA _) (.cells #[.bool y.thing,.int .i64 y.to,.slice a1 y.hops.length c1] 39);have hbx:=YAE w (.cells #[.bool y.thing,.int .i64 y.to,.slice a1 y.hops.length c1] 39);have z0:=Zaa hbx 0;have z1:=Zaa hbx 1;have z2:=Zaa hbx 2;simp at z0 z1 z2;have HK:=hide (fun W=>Zcs y (.slice a1 y.hops.length c1) W);unfold lnC;have HBB:=hide bb;have HBX:=hide hbx;have HL:=hide h;have HY:=hide hy;have HH:=hide hh;have hlb:=Zab hbx;have hsb:=bb.size;obtain⟨W0,hW0⟩:∃ W0,W0=w.alloc (.cells #[.bool y.thing,.int .i64 y.to,.slice a1 y.hops.length c1] 39):=⟨_,rfl⟩;have HW0:=hide hW0;rw [<-hW0] at HBB HBX hlb hsb;have HLK:=hide (fun W (hb:Below W0.heap.size W0 W)=>((HL.out.below HBB.out (YA _)).below hb hsb).look2 y.thing y.to);have HSZ:=hide (show W0.heap.size=w.heap.size+1 by rw [hW0];simp);clear h hy hh bb hbx hlb hsb hW0;obtain⟨R,hR⟩:∃ R,R=(ZbB es).contains y:=⟨_,rfl⟩;rw [<-hR];have HR:=hide hR;clear hR
 go_enter Tryz.func33,Tryz.ntmps33
 go_wp2_with fail
 rw [<-HW0.out];refine (HK.out _).mono ?_;rintro e w1 ⟨rfl,b1⟩;have HB1:=hide b1;clear b1 z0 z1 z2;unfold kV;rcases HLK.out w1 HB1.out with ⟨hi,hlk⟩ | ⟨k,x,hx,hi,ht,hz,hlk⟩
 ·have hRf:R=false:=by
   rw [HR.out];cases hc:(ZbB es).contains y with
   | false=>rfl
   | true=>
    exfalso;have hm:y∈ZbB es:=by simpa using hc
    obtain⟨k,h1,_⟩:=ZfV hk hm;omega
  subst hRf;clear hi
  go_wp2_with fail
  refine (Zkn w.heap.size _).mono ?_;rintro e w2 ⟨rfl,b2⟩;go_wp2;go_ret;exact⟨rfl,HBB.out.trans ((HB1.out.trans (b2.mono HB1.out.size)).mono HBB.out.size)⟩
 ·have hr:=((HL.out.below HBB.out (YA _)).below HB1.out HBB.out.size).rows x (YAF hx);have hho:=HH.out x (YAF hx);have hmem:x.1.2.1∈ZbB es:=by unfold ZbB;exact List.mem_map_of_mem (YAF hx)
  have hRd:R=decide (x.1.2.1.hops=y.hops):=by
   rw [HR.out,Bool.eq_iff_iff,decide_eq_true_iff];constructor
   ·intro hc;have hm:y∈ZbB es:=by simpa using hc
    rw [hk.one hmem hm (by simp [keyB,ht,hz])]
   ·intro hc;have e:y=x.1.2.1:=by
     obtain⟨t1,t2,t3⟩:=y;obtain⟨⟨x1,⟨x2,x3,x4⟩,x5⟩,x6⟩:=x;simp only [] at ht hz hc;simp only [LnD.mk.injEq];exact⟨ht.symm,hz.symm,hc.symm⟩
    rw [e];simpa using hmem
  have HCT:=hide (Zko x.2 lo x.1.1 x.1.2.1 y x.1.2.2 (.slice a1 y.hops.length c1) w.heap.size w1 hr.1 (Zal.then (Zal.then hho.1 HBB.out) HB1.out) (Zal.then (Zal.then HY.out HBB.out) HB1.out) hho.2 ((HB1.out.block _ (Zab HBX.out)).trans HBX.out));rw [<-hRd] at HCT;obtain⟨xa,xc,hxe⟩:=Zac hr.1;rw [hxe] at HCT hlk;clear hx hi ht hz hr hho hmem hRd
  go_wp2_with fail
  refine HCT.out.mono ?_;rintro e w2 ⟨rfl,b2⟩;go_wp2;go_ret;exact⟨rfl,HBB.out.trans ((HB1.out.trans (b2.mono HB1.out.size)).mono HBB.out.size)⟩
end Go.Proofs.YtdhnddfnckgbjaaGreat
