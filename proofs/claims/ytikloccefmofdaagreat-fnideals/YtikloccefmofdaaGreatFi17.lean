/-
  Parts.
-/
import Derived.Test.YtikloccefmofdaaGreatFi16
import Derived.Test.YtikloccefmofdaaGreatFi15
import Derived.Test.YtikloccefmofdaaGreatFi14
namespace Go.Proofs.YtikloccefmofdaaGreat
open Go.RowKit
set_option linter.unusedSimpArgs false
set_option linter.unusedVariables false
set_option maxRecDepth 100000
set_option maxHeartbeats 8000000
variable {area n:Int}{ls:List Lk}{xs:List RecD}{k:Nat}{o:Nat->Nat->Int}{W:World}
def Zd9 (ns:List Nr)(bk:Int->Int)(v:Nat):Nat->Int
 | 0=>0
 | k+1=>match ns[k]? with
  | some n=>if n.to=(v:Int)/\inB n.to 1 6=true/\0<bk n.to then n.c else Zd9 ns bk v k
  | none=>Zd9 ns bk v k
def Znm (xs:List RecD)(area:Int)(u v:Nat):Int:=Zd9 (Zcd xs area u).near (fun b=>Zc8 xs area b u) v (Zcd xs area u).near.length
def ZhL (o:Nat->Nat->Int)(i:Nat):Value:=.int .i64 (o (i / 7) (i%7))
theorem Zmj {g:Nat} (h:W.heap[g]? = some (.cells (rowA (ZhL o) 49) 3)) {a b:Nat} (ha:a<=6) (hb:b<=6):W.cell? ⟨g,a*7+b,none⟩=some (.int .i64 (o a b)):=by
 rw [ZfV h (by omega)];unfold ZhL;rw [show (a*7+b) / 7=a by omega,show (a*7+b)%7=b by omega]
theorem ZoR {g:Nat} (h:W.heap[g]? = some (.cells (rowA (ZhL o) 49) 3)) {a b:Nat} (hb:b<=6) (x:Int):
  (W.setCell ⟨g,a*7+b,none⟩ (.int .i64 x)).heap[g]? = some (.cells (rowA (ZhL (fun u v=>if u=a/\v=b then x else o u v)) 49) 3):=by
 rw [ZgP h,ZdH (fun i _=>?_)];unfold ZhL;show (if i=a*7+b then Value.int .i64 x else .int .i64 (o (i / 7) (i%7)))=.int .i64 (if i / 7=a/\i%7=b then x else o (i / 7) (i%7));by_cases e:i=a*7+b
 ·rw [if_pos e,if_pos (by omega)]
 ·rw [if_neg e,if_neg (by omega)]
theorem Zex {ns:List Nr}{n:Nr}(bk:Int->Int)(v:Nat)(h:ns[k]? = some n):Zd9 ns bk v (k+1)=if n.to=(v:Int)/\inB n.to 1 6=true/\0<bk n.to then n.c else Zd9 ns bk v k:=by
 show (match ns[k]? with
  | some n=>if n.to=(v:Int)/\inB n.to 1 6=true/\0<bk n.to then n.c else Zd9 ns bk v k
  | none=>Zd9 ns bk v k)=_
 rw [h]
theorem Zd6 {x a b:Int}:inB x a b=true↔a<=x/\x<=b:=by simp [inB]
def Zey (xs:List RecD)(area:Int)(k j u v:Nat):Int:=if u<=k then Znm xs area u v else if u=k+1 then Zd9 (Zcd xs area u).near (fun b=>Zc8 xs area b u) v j else 0
def ZjN (xs:List RecD)(area:Int)(k j:Nat)(o:Nat->Nat->Int):Prop:=∀ u v,1<=u->u<=6->1<=v->v<=6->o u v=Zey xs area k j u v
theorem Zqy  (h:ZjN xs area k (Zcd xs area ((k+1:Nat):Int)).near.length o):ZjN xs area (k+1) 0 o:=by
 intro u v h1 h2 h3 h4;rw [h u v h1 h2 h3 h4];unfold Zey;by_cases e:u<=k
 ·rw [if_pos e,if_pos (by omega)]
 ·rw [if_neg e];by_cases e2:u=k+1
  ·rw [if_pos e2,if_pos (by omega)];subst e2;rfl
  ·rw [if_neg e2,if_neg (by omega)]
   split
   ·rfl
   ·rfl
theorem Zmm {j:Nat}{n:Nr}(h:ZjN xs area k j o) (hn:(Zcd xs area ((k+1:Nat):Int)).near[j]? = some n) (hno:¬(inB n.to 1 6=true/\0<Zc8 xs area n.to ((k+1:Nat):Int))):ZjN xs area k (j+1) o:=by
 intro u v h1 h2 h3 h4;rw [h u v h1 h2 h3 h4];unfold Zey;by_cases e:u<=k
 ·rw [if_pos e,if_pos e]
 ·rw [if_neg e,if_neg e];by_cases e2:u=k+1
  ·rw [if_pos e2,if_pos e2];subst e2;rw [Zex _ v hn,if_neg (fun hc=>hno hc.2)]
  ·rw [if_neg e2,if_neg e2]
theorem Zr0 {j t:Nat}{n:Nr}(h:ZjN xs area k j o) (hn:(Zcd xs area ((k+1:Nat):Int)).near[j]? = some n) (hyes:inB n.to 1 6=true/\0<Zc8 xs area n.to ((k+1:Nat):Int)) (ht:n.to=(t:Int)):ZjN xs area k (j+1) (fun u v=>if u=k+1/\v=t then n.c else o u v):=by
 intro u v h1 h2 h3 h4;have hh:=h u v h1 h2 h3 h4;unfold Zey at hh |-;by_cases e:u<=k
 ·rw [if_pos e] at hh |-
  show (if u=k+1/\v=t then n.c else o u v)=_;rw [if_neg (by omega)];exact hh
 ·rw [if_neg e] at hh |-
  by_cases e2:u=k+1
  ·rw [if_pos e2] at hh |-
   subst e2;rw [Zex _ v hn];show (if k+1=k+1/\v=t then n.c else o (k+1) v)=_;by_cases e3:v=t
   ·rw [if_pos ⟨rfl,e3⟩,if_pos ⟨by omega,hyes⟩]
   ·rw [if_neg (fun hc=>e3 hc.2),if_neg (fun hc=>by have:=hc.1;omega)];exact hh
  ·rw [if_neg e2] at hh |-
   show (if u=k+1/\v=t then n.c else o u v)=_;rw [if_neg (fun hc=>e2 hc.1)];exact hh
theorem ZnG (v:Value)(ps:List RP)(hi:Nat)(area:Int)(w:World)(hv:RecsIn w hi v ps)(hhi:hi<=w.heap.size)(hn:tot ps<=1048576):
  Calls Tryz.prog 118 #[v,.int .i64 area] w fun e w'=>∃ o,e=.returned (.slice (some ⟨w.heap.size,0,none⟩) 49 49)/\w'.heap[w.heap.size]? = some (.cells (rowA (ZhL o) 49) 3)/\(∀ u v,1<=u->u<=6->1<=v->v<=6->o u v=Znm (fsts ps) area u v)/\Below w.heap.size w w':=by
 obtain⟨a1,c1,rfl⟩:=Zac hv.row;have HN:=hide (fun node W (hb:Below w.heap.size w W)=>Zhy (.slice a1 ps.length c1) ps hi area node W (hv.below hb hhi) (YAK hhi hb.size) hn);have HT:=hide (fun a b W (hb:Below w.heap.size w W)=>ZnL (.slice a1 ps.length c1) ps hi area a b W (hv.below hb hhi) (YAK hhi hb.size) hn);clear hv;have g0:=YAE w (.cells (rowA (fun _=>.int .i64 0) 49) 3);have B0:Below w.heap.size w (w.alloc (.cells (rowA (fun _=>.int .i64 0) 49) 3)):=(YAC _ _).alloc (YA _) _
 go_enter Tryz.func118,Tryz.ntmps118
 go_wp2_with (first | (at_make;refine Zb8 _ rfl _ _ 40 rfl 3 (.int .i64 0) 8 Tryz.underlying40 Tryz.info3 rfl 49 rfl rfl (by omega) (by omega) ?_))
 generalize w.alloc (.cells (rowA (fun _=>.int .i64 0) 49) 3)=w0 at *;go_wp2
 go_loopw [6] (fun i wr=>∃ (k:Nat) (o:Nat->Nat->Int),k<=6/\i=.int .i64 ((k:Int)+1)/\Hid (ZjN (fsts ps) area k 0 o)/\wr.heap[w.heap.size]? = some (.cells (rowA (ZhL o) 49) 3)/\Below w.heap.size w wr) (fun i _=>8-(intOf i).toNat)
 case atStart=>exact ⟨0,fun _ _=>0,by omega,rfl,hide (fun u v h1 h2 h3 h4=>by unfold Zey;rw [if_neg (by omega)];split <;> rfl),g0,B0⟩
 case round=>
  rename World=>wo
  obtain⟨k,o,hk,rfl,HO,hg,hnx⟩:=hrel;have hsz:=hnx.size;by_cases hlt:k<6
  ·have hk6:(k:Int)+1<=6:=by omega
   have hw1:IntKind.i64.wrap ((k:Int)+1+1)=((k+1:Nat):Int)+1:=by rw [ZaH _ (by omega) (by omega)];omega
   have J:=hide (HN.out ((k:Int)+1) wo hnx);obtain⟨D,hD⟩:∃ D,D=Zcd (fsts ps) area ((k:Int)+1):=⟨_,rfl⟩;obtain⟨NB,hNB⟩:∃ b,b=Zdt (fsts ps) area ((k:Int)+1):=⟨_,rfl⟩;rw [<-hD, <-hNB] at J;have HD:=hide hD;clear hD hNB;unfold recC at J
   go_wp2_with fail
   refine J.out.mono ?_;rintro e w1 ⟨u,rfl,hu,hul,b1⟩;obtain⟨ua,uc,rfl⟩:=Zat.shape hu;have hx:=YAE w1 (.cells #[.int .i64 D.area,.int .i64 D.kind,.int .i64 D.owner,.int .i64 D.key,.int .i64 D.seq,.slice ua D.near.length uc,.int .i64 D.cost,.bool D.far] 37);have BX:Below w1.heap.size w1 (w1.alloc (.cells #[.int .i64 D.area,.int .i64 D.kind,.int .i64 D.owner,.int .i64 D.key,.int .i64 D.seq,.slice ua D.near.length uc,.int .i64 D.cost,.bool D.far] 37)):=(YAC _ _).alloc (YA _) _;obtain⟨w2,hw2⟩:∃ W,W=w1.alloc (.cells #[.int .i64 D.area,.int .i64 D.kind,.int .i64 D.owner,.int .i64 D.key,.int .i64 D.seq,.slice ua D.near.length uc,.int .i64 D.cost,.bool D.far] 37):=⟨_,rfl⟩;rw [<-hw2] at hx BX;have B12:Below wo.heap.size wo w2:=b1.trans (BX.mono b1.size);have B2:Below w.heap.size w w2:=hnx.trans (B12.mono hsz);have HU:Hid (Zat w2 (.slice ua D.near.length uc) D.near hi):=hide (Zav.later hu BX (by have:=b1.size;omega));have hs2:=Zab hx;have hg2:=(B12.block _ (Zab hg)).trans hg;obtain⟨z,hz⟩:∃ z,z=w1.heap.size:=⟨_,rfl⟩;have HZ:=hide hz;have hzg:w.heap.size<z:=by have:=Zab hg;have:=b1.size;omega
   have HXX:=hide hx;have HG2:=hide hg2;clear hu hx hg hg2 BX b1 J;go_wp2;rw [<-hw2];rw [<-hz];rw [<-hz] at HXX hs2;clear hw2 hz
   go_loopw [9] (fun i wr=>∃ (j:Nat) (o:Nat->Nat->Int),j<=D.near.length/\i=.int .i64 (j:Int)/\Hid (ZjN (fsts ps) area k j o)/\Hid (wr.heap[w.heap.size]? = some (.cells (rowA (ZhL o) 49) 3))/\wr.heap[z]? = some (.cells #[.int .i64 D.area,.int .i64 D.kind,.int .i64 D.owner,.int .i64 D.key,.int .i64 D.seq,.slice ua D.near.length uc,.int .i64 D.cost,.bool D.far] 37)/\Below w.heap.size w2 wr) (fun i _=>D.near.length-(intOf i).toNat)
   case atStart=>exact ⟨0,o,by omega,rfl,HO,HG2,HXX.out,YAC _ _⟩
   case round=>
    obtain⟨j,o,hj,rfl,HO,HG,hz,hnq⟩:=hrel;have BQ:Below w.heap.size w wr:=B2.trans hnq;have d5:=Zaa hz 5;simp at d5;have HZZ:=hide hz;clear hz;by_cases hjl:j<D.near.length
    ·obtain ⟨n,hn⟩:∃ n,D.near[j]? = some n:=⟨D.near[j],YAA hjl⟩;have hNq:=(Zav.later HU.out hnq hhi);obtain⟨b,off,cp,hve,hbb,c0,c1⟩:=Zat.cells hNq j n hn;cases hve;have hji:(0:Int)<=(j:Int):=by omega
     have hjj:(j:Int)<(D.near.length:Int):=by omega
     have HNJ:=hide hn;clear hn hNq;by_cases hin:inB n.to 1 6=true
     ·obtain ⟨t,ht⟩:∃ t:Nat,n.to=(t:Int):=⟨n.to.toNat,by have:=Zd6.1 hin;omega⟩;have ht6:=Zd6.1 hin;rw [ht] at ht6 c0;have hin':inB (t:Int) 1 6=true:=by rw [<-ht];exact hin
      by_cases hbk:0<Zc8 (fsts ps) area (t:Int) ((k:Int)+1)
      ·have hTL:=hide (HT.out (t:Int) ((k:Int)+1) wr BQ)
       go_wp2_with fail
       refine (ZbU _ _ _ _).mono ?_;rintro e w3 ⟨rfl,rfl⟩;rw [hin']
       go_wp2_with fail
       refine hTL.out.mono ?_;rintro e w3 ⟨rfl,b3⟩;have hs3:=b3.size;have HMS:=hide (Zr0 HO.out (by rw [<-show (k:Int)+1=((k+1:Nat):Int) by omega, <-HD.out];exact HNJ.out) (by rw [<-show (k:Int)+1=((k+1:Nat):Int) by omega,ht];exact⟨hin',hbk⟩) ht);have hg3:=(b3.block _ (Zab HG.out)).trans HG.out;have hz3:=(b3.block _ (Zab HZZ.out)).trans HZZ.out;have B3:Below w.heap.size w2 w3:=hnq.trans (b3.mono BQ.size);have hbq:b<wr.heap.size:=by have:=BQ.size;omega
       replace c0:=(b3.cell hbq).trans c0;replace c1:=(b3.cell hbq).trans c1;replace d5:=(b3.cell (Zab HZZ.out)).trans d5;have dg:=Zmj hg3 (a:=k+1) (b:=t) (by omega) (by omega);have fg:=Zae hg3;have HP:=hide (ZoR hg3 (a:=k+1) (b:=t) (by omega) n.c);have HZP:=hide ((YAO w3 ⟨w.heap.size,(k+1)*7+t,none⟩ z (.int .i64 n.c) (by show z≠w.heap.size;omega)).trans hz3);have BP:=hide (show Below w.heap.size w2 (w3.setCell ⟨w.heap.size,(k+1)*7+t,none⟩ (.int .i64 n.c)) from B3.setCell (p:=⟨w.heap.size,(k+1)*7+t,none⟩) (YA _) _);have hm1:IntKind.i64.wrap (((k:Int)+1)*7)=(((k+1)*7:Nat):Int):=by rw [ZaH _ (by omega) (by omega)];omega
       have hm2:IntKind.i64.wrap ((((k+1)*7:Nat):Int)+(t:Int))=(((k+1)*7+t:Nat):Int):=by rw [ZaH _ (by omega) (by omega)];omega
       have hm3:(0:Int)<=(((k+1)*7+t:Nat):Int):=by omega
       have hm4:(((k+1)*7+t:Nat):Int)<49:=by omega
       clear hg3 hz3 hTL HO HG HZZ HU HXX HG2 HN HT;go_wp2
       go_region
       go_wp2;go_roundw
       case rel=>exact ⟨j+1,_,by omega,by go_num,HMS,HP,HZP.out,BP.out.trans ⟨rfl,rfl,rfl,YA _,fun _ _=>rfl⟩⟩
       case measure=>simp [intOf];omega
      ·have hTL:=hide (HT.out (t:Int) ((k:Int)+1) wr BQ)
       go_wp2_with fail
       refine (ZbU _ _ _ _).mono ?_;rintro e w3 ⟨rfl,rfl⟩;rw [hin']
       go_wp2_with fail
       refine hTL.out.mono ?_;rintro e w3 ⟨rfl,b3⟩;have hs3:=b3.size;have HMS:=hide (Zmm HO.out (by rw [<-show (k:Int)+1=((k+1:Nat):Int) by omega, <-HD.out];exact HNJ.out) (fun hc=>by have h2:=hc.2;rw [show ((k+1:Nat):Int)=(k:Int)+1 by omega,ht] at h2;omega));have HG3:=hide ((b3.block _ (Zab HG.out)).trans HG.out);have HZ3:=hide ((b3.block _ (Zab HZZ.out)).trans HZZ.out);have B3:Below w.heap.size w2 w3:=hnq.trans (b3.mono BQ.size);go_wp2;go_roundw
       case rel=>exact ⟨j+1,o,by omega,by go_num,HMS,HG3,HZ3.out,B3⟩
       case measure=>simp [intOf];omega
     ·have hin':inB n.to 1 6=false:=by simpa using hin
      have HMS:=hide (Zmm HO.out (by rw [<-show (k:Int)+1=((k+1:Nat):Int) by omega, <-HD.out];exact HNJ.out) (fun hc=>hin hc.1))
      go_wp2_with fail
      refine (ZbU _ _ _ _).mono ?_;rintro e w3 ⟨rfl,rfl⟩;rw [hin'];go_wp2;go_roundw
      case rel=>exact ⟨j+1,o,by omega,by go_num,HMS,HG,HZZ.out,hnq⟩
      case measure=>simp [intOf];omega
    ·have hjn:j=D.near.length:=by omega
     have HMN:=hide (Zqy (k:=k) (o:=o) (by rw [<-show (k:Int)+1=((k+1:Nat):Int) by omega, <-HD.out, <-hjn];exact HO.out));clear hjn;go_wp2;go_roundw
     case rel=>exact ⟨k+1,o,by omega,rfl,HMN,HG.out,BQ⟩
     case measure=>simp [intOf];omega
  ·have hk6:¬(k:Int)+1<=6:=by omega
   have KN:=hide (show ∀ u v,1<=u->u<=6->1<=v->v<=6->o u v=Znm (fsts ps) area u v by
    intro u v h1 h2 h3 h4;rw [HO.out u v h1 h2 h3 h4];unfold Zey;rw [if_pos (by omega)])
   go_wp2;go_ret
   first
    | exact ⟨rfl,o,hg,KN.out,hnx⟩
    | exact ⟨o,rfl,hg,KN.out,hnx⟩

def heE (p:Int × Int):List Value:=[.int .i64 p.1,.int .i64 p.2]
theorem Zor (p:Int × Int):(heE p).length=2:=rfl
theorem ZrS (p:Int × Int):∀ u∈heE p,u.oneCell'=true:=by
 intro u hu;simp only [heE,YAb,List.not_mem_nil,or_false] at hu;rcases hu with rfl | rfl <;> rfl
def ZhU (W:World)(v:Value)(ls:List (Int × Int))(B:Nat):Prop:=ZaU heE 2 W v ls B
instance:Inhabited (Int × Int):=⟨(0,0)⟩
theorem ZhU.shape {v:Value}{ls:List (Int × Int)}{B:Nat}(h:ZhU W v ls B):∃ a cap,v=.slice a ls.length cap:=by
 obtain⟨a,cap,h,_⟩:=h;exact⟨a,cap,h⟩
theorem ZhU.cells {v:Value}{ls:List (Int × Int)}{B:Nat}(h:ZhU W v ls B)(i:Nat)(p:Int × Int)(hp:ls[i]? = some p):
  ∃ b off cap,v=.slice (some ⟨b,off,none⟩) ls.length cap/\b<B/\W.cell? ⟨b,off+i*2,none⟩=some (.int .i64 p.1)/\W.cell? ⟨b,off+i*2+1,none⟩=some (.int .i64 p.2):=by
 obtain⟨b,off,cap,hv,hb,hc⟩:=ZaU.cell h Zor i p hp;exact⟨b,off,cap,hv,hb,hc 0 _ rfl,hc 1 _ rfl⟩
theorem Tryz.infoEnd :(Tryz.prog.info? 155).map (fun i=>(i.zero,i.size,i.bytes))=some (some (.agg #[.int .i64 0,.int .i64 0]),2,16):=by kernel_rfl
theorem ZfX {α:Type}{enc:α->List Value}{sz bytes:Nat}(hlen:∀ a,(enc a).length=sz)(hpos:0<sz)(hbb:bytes<=100){P:Program}{ops:Array Oper}{o:Oper}{a:Act}{w:World}{K:Act->World->Prop}{Q:Exit->Act->World->Prop}{E:Prop}(hgd:o.guard=none)(s x:Operand)(t:TypeId)
  (ho:o.op=.call { callee:=.builtin .append,args:=#[s,x],argTypes:=#[t,t] }) (base:Nat) (e:TypeId) (ht:P.underlying t=some (.slice e)) (zv:Value) (hzv:zv.cells.size=sz)
  (hinfo:(P.info? e).map (fun i=>(i.zero,i.size,i.bytes))=some (some zv,sz,bytes))
  (v:Value) (l:List α) (y:α) (hone:∀ u∈enc y,u.oneCell'=true) (hs:a.eval s=v) (hown:w.ownsRow base e sz v l.length (flat enc l))
  (ad:Addr) (c:Nat) (hx:a.eval x=.slice (some ad) 1 c) (hnews:∀ j u,(enc y)[j]? = some u->w.cell? (ad.add j)=some u)
  (hl:l.length+1<=1000000000) (hbase:base<=w.heap.size)
  (h:∀ v' w',w'.ownsRow base e sz v' (l++[y]).length (flat enc (l++[y]))->w.grownBy w' v.ownBlock->K (a.put o.dst v') w'):
  if Region.wanted o (yielded ops a.tmps)=true then Oper.wp P o a w K Q else E:=by
 have hw:Region.wanted o (yielded ops a.tmps)=true:=by simp [Region.wanted,hgd]
 rw [if_pos hw];obtain⟨i0,hi,hz0,hz1,hz2⟩:=info_parts hinfo;refine wp_append_own w s x t ho base e i0 zv sz bytes ht hi hz0 hz1 hz2 hzv hpos v l.length (flat enc l) hs hown ad 1 c (enc y) hx (by rw [hlen];omega) hnews hone (by unfold maxLen;omega) ?_ hbase ?_
 ·have:(l.length+1)*bytes<=1000000000*100:=Nat.mul_le_mul hl hbb;omega
 ·intro v' w' h1 h2 _;have e1:flat enc l++enc y=flat enc (l++[y]):=by rw [ZaC];simp [flat]
  rw [e1] at h1;exact h v' w' (by simpa using h1) h2
theorem Zi5 (v:Value)(h:List Int)(w:World)(hn:h.length<=1048576)(hv:ZaI w v h w.heap.size):
  Calls Tryz.prog 109 #[v] w fun e w'=>∃ u,e=.returned u/\w'.ownsRow w.heap.size 155 2 u (ZaJ h).length (flat heE (ZaJ h))/\Below w.heap.size w w':=by
 obtain⟨a,cap,rfl⟩:=hv.shape;have HV:=hide hv;have hpl:=ZfR h;have HPL:=hide hpl;clear hv hpl
 go_enter Tryz.func109,Tryz.ntmps109
 go_wp2
 go_loopw [4,3] (fun i o wr=>∃ (k:Nat) (u:Value),2*k<=h.length/\i=.int .i64 (2*(k:Int)+1)/\o=u/\wr.ownsRow w.heap.size 155 2 u ((ZaJ h).take k).length (flat heE ((ZaJ h).take k))/\Below w.heap.size w wr) (fun i _ _=>h.length+2-(intOf i).toNat)
 case atStart=>exact ⟨0,_,by omega,by simp,rfl,YAZ _ _ _ _,YAC _ _⟩
 case round=>
  obtain⟨k,u,hk,rfl,rfl,hown,hb⟩:=hrel;have hsz:=hb.size;obtain⟨ua,uc,hue⟩:=Zac hown;have htl:((ZaJ h).take k).length=k:=by rw [YAV,HPL.out];omega
  by_cases hlt:2*k+1<h.length
  ·have hj0:(2*(k:Int)+1)<(h.length:Int):=by omega
   obtain⟨x,hx⟩:∃ x,h[2*k]? = some x:=⟨h[2*k],YAA (by omega)⟩;obtain⟨y,hy⟩:∃ y,h[2*k+1]? = some y:=⟨h[2*k+1],YAA hlt⟩;obtain⟨b,off,cap',hve,hbb,c0⟩:=HV.out.cell (2*k) x hx;cases hve;obtain⟨b',off',cap2,hve2,hbb2,d0⟩:=HV.out.cell (2*k+1) y hy;cases hve2;replace c0:=(hb.cell hbb).trans c0;replace d0:=(hb.cell hbb).trans d0;have HST:=hide (Znw h k x y hx hy);have hbr:b<wr.heap.size:=by omega
   have e1:(2*(k:Int)+1)-1=((2*k:Nat):Int):=by omega
   have e2:(2*(k:Int)+1)=((2*k+1:Nat):Int):=by omega
   have hw1:IntKind.i64.wrap (2*(k:Int)+1-1)=2*(k:Int)+1-1:=ZaH _ (by omega) (by omega);subst hue;clear hx hy;have HOW:=hide hown;have HVV:=hide HV;clear hown HV;have q1:(0:Int)<=2*(k:Int):=by omega
   have q2:2*(k:Int)<(h.length:Int):=by omega
   have q3:(0:Int)<=2*(k:Int)+1:=by omega
   have q4:(2*(k:Int)).toNat=2*k:=by omega
   have q5:(2*(k:Int)+1).toNat=2*k+1:=by omega
   have q6:2*(k:Int)+1-1=2*(k:Int):=by omega
   rw [q6] at hw1;rw [htl] at HOW |-;clear e1 e2;have HNE:some b≠(Value.slice ua k uc).ownBlock:=fun e=>by have:=(HOW.out.lt b e.symm).1;omega
   go_wp2
   go_region_held3 (fun W=>W.cell? ⟨b,off+2*k,none⟩=some (.int .i64 x)/\W.cell? ⟨b,off+(2*k+1),none⟩=some (.int .i64 y)) (first | go_keep | exact ⟨hgrow.cell ((((YAC wr.heap.size wr).alloc (YA _) _).drew.cell hbr).trans c0) HNE,hgrow.cell ((((YAC wr.heap.size wr).alloc (YA _) _).drew.cell hbr).trans d0) HNE⟩) (first | (refine ZfX Zor (by omega) (by omega) rfl _ _ 152 rfl w.heap.size 155 Tryz.underlying152 (.agg #[.int .i64 0,.int .i64 0]) rfl Tryz.infoEnd (.slice ua k uc) ((ZaJ h).take k) (x,y) (ZrS _) rfl ?_ ⟨wr.heap.size,0,none⟩ 1 rfl ?_ ?_ ?_ ?_;(rw [htl];exact (HOW.out.alloc _).drew);(exact Zan (cs:=heE (x,y)));(omega);(simp;omega);intro v' w1 hown' hgrow))
   have hgs:=hgrow.size;simp at hgs;have BF:Below w.heap.size w w1:=(hb.alloc hsz _).drew.grown hgrow (by simp;omega) (fun k hk=>(HOW.out.lt k hk).1);have HO:=hide hown';clear hown' hgrow;go_wp2;go_roundw
   case rel=>exact ⟨k+1,v',by omega,by go_num,rfl,by rw [HST.out];exact HO.out,BF⟩
   case measure=>simp [intOf];omega
  ·have hj0:¬(2*(k:Int)+1)<(h.length:Int):=by omega
   have KN:=hide (show (ZaJ h).take k=ZaJ h by rw [YAL];rw [HPL.out];omega);subst hue;have OW:=hide hown;clear hown;go_wp2;go_ret;have h1:=OW.out;rw [KN.out] at h1;exact⟨_,by rw [<-KN.out,htl];rfl,h1,hb⟩

theorem World.size_alloc_drew (w:World)(o:Obj):(w.drew.alloc o).heap.size=w.heap.size+1:=by
 have:(w.drew.alloc o).heap.size=w.drew.heap.size+1:=by simp
 exact this
def onwD (x:WayD)(to c:Int):WayD:=if x.hops=[] then ⟨to,x.cost+c,[to]⟩ else ⟨to,x.cost+c,x.hops⟩
theorem Znt (x:WayD)(vx:Value)(bx:Nat)(to c:Int)(w:World)(hx:w.ownsRow bx 3 1 vx x.hops.length (flat intE x.hops))(hlx:x.hops.length<=1048576)(h0:0<=x.cost+c)(h1:x.cost+c<=1000000):
  Calls Tryz.prog 144 #[.agg (wayC x vx),.int .i64 to,.int .i64 c] w fun e w'=>∃ u,e=.returned (.agg (wayC (onwD x to c) u))/\w'.ownsRow w.heap.size 3 1 u (onwD x to c).hops.length (flat intE (onwD x to c).hops)/\Below w.heap.size w w':=by
 obtain⟨D,hD⟩:∃ D,D=onwD x to c:=⟨_,rfl⟩;rw [<-hD];unfold onwD at hD;have HD:=hide hD;clear hD;obtain⟨p1,q1,rfl⟩:=Zac hx;have HOH:=hide (fun W (hb:Below w.heap.size w W)=>Ze5 x.hops (.slice p1 x.hops.length q1) bx W (Zad hx hb (YA _)) hlx);clear hx;have hwc:IntKind.i64.wrap (x.cost+c)=x.cost+c:=ZaH _ (by omega) (by omega);have m0:((w.alloc (.cells #[.int .i64 x.to,.int .i64 x.cost,.slice p1 x.hops.length q1] 108)).alloc (.cells #[.int .i64 0,.int .i64 0,.slice none 0 0] 108)).heap[w.heap.size]? = some (.cells #[.int .i64 x.to,.int .i64 x.cost,.slice p1 x.hops.length q1] 108):=by
  rw [YAH _ _ _ (by simp),YAE]
 have m1:((w.alloc (.cells #[.int .i64 x.to,.int .i64 x.cost,.slice p1 x.hops.length q1] 108)).alloc (.cells #[.int .i64 0,.int .i64 0,.slice none 0 0] 108)).heap[w.heap.size+1]? = some (.cells #[.int .i64 0,.int .i64 0,.slice none 0 0] 108):=by
  have e:=YAE (w.alloc (.cells #[.int .i64 x.to,.int .i64 x.cost,.slice p1 x.hops.length q1] 108)) (.cells #[.int .i64 0,.int .i64 0,.slice none 0 0] 108);rw [show (w.alloc (.cells #[.int .i64 x.to,.int .i64 x.cost,.slice p1 x.hops.length q1] 108)).heap.size=w.heap.size+1 by simp] at e;exact e
 have BQ:Below w.heap.size w ((w.alloc (.cells #[.int .i64 x.to,.int .i64 x.cost,.slice p1 x.hops.length q1] 108)).alloc (.cells #[.int .i64 0,.int .i64 0,.slice none 0 0] 108)):=((YAC w.heap.size w).alloc (by simp) _).alloc (by simp) _;obtain⟨w1,hw1⟩:∃ W,W=((w.alloc (.cells #[.int .i64 x.to,.int .i64 x.cost,.slice p1 x.hops.length q1] 108)).alloc (.cells #[.int .i64 0,.int .i64 0,.slice none 0 0] 108)):=⟨_,rfl⟩;rw [<-hw1] at m0 m1 BQ;have s1:=Zaa m0 1;have s2:=Zaa m0 2;simp at s1 s2;unfold wayC
 go_enter Tryz.func144,Tryz.ntmps144
 go_wp2;rw [<-hw1];clear hw1;refine wp_region_noPanic ?_;have hS0:w1.drew.cell? ⟨w.heap.size,1,none⟩=some (.int .i64 x.cost)/\w1.drew.cell? ⟨w.heap.size,2,none⟩=some (.slice p1 x.hops.length q1):=⟨s1,s2⟩;refine Zag (S:=fun W=>W.cell? ⟨w.heap.size,1,none⟩=some (.int .i64 x.cost)/\W.cell? ⟨w.heap.size,2,none⟩=some (.slice p1 x.hops.length q1)) (by kernel_rfl) 11 rfl hS0 ?_;intro ops hops _;show wpAnyH Tryz.prog .any ops _ _ 11 #[false,false,false,false,false,false,false,false,false,false,false] _ w1.drew
 iterate 7
  refine ZhD 11 ?_ ?_ ?_ (by rw [hops.out];kernel_rfl) ?_ ?_ (by assumption) ?_
  rotate_left 2
  ·rw [hops.out];simp only [getS,Nat.reduceSub,Nat.reduceAdd];rfl
  ·intro W hW;obtain⟨k1,k2⟩:=hW;go_simp <;> with_reducible rfl
  ·exact fun _ _ _=>id
  try simp only [putS]
 refine wpAnyH_ready (rs:=[7,9]) (by rw [hops.out];kernel_rfl) (by simp) ?_;refine AllReadyH.cons (o:=?_) ?_ (fun K hK=>?_) ?_
 rotate_left 1
 ·rw [hops.out];simp only [getS];rfl
 ·rw [if_pos (by rfl)];go_simp;refine (HOH.out _ (Zm0 BQ)).mono ?_;rintro e w4 ⟨u,rfl,hn2,b2⟩;obtain⟨na,nc,rfl⟩:=Zac hn2;have hK2:w4.cell? ⟨w.heap.size,1,none⟩=some (.int .i64 x.cost)/\w4.cell? ⟨w.heap.size,2,none⟩=some (.slice p1 x.hops.length q1):=⟨by rw [b2.cell (by exact Zab m0)];exact s1,by rw [b2.cell (by exact Zab m0)];exact s2⟩;refine hK.out _ _ hK2 (fun _=>?_);clear hK K
  try simp only [putS]
  refine Zbs 8 ?_ ?_ ?_ (by rw [hops.out];kernel_rfl) ?_ ?_ (by assumption) ?_
  rotate_left 2
  ·rw [hops.out];simp only [getS];rfl
  ·intro W hW;obtain⟨k1,k2⟩:=hW;go_simp <;> with_reducible rfl
  ·exact fun _ _ _=>id
  try simp only [putS]
  refine TC 9 ?_;intro K hK;go_simp;have hK3:(w4.alloc (.cells #[.int .i64 0,.int .i64 0,.slice none 0 0] 108)).cell? ⟨w.heap.size,1,none⟩=some (.int .i64 x.cost)/\(w4.alloc (.cells #[.int .i64 0,.int .i64 0,.slice none 0 0] 108)).cell? ⟨w.heap.size,2,none⟩=some (.slice p1 x.hops.length q1):=⟨by rw [World.cell?_of_block (w:=w4) (YAH _ _ _ (by have h1:=Zab m0;have h2:=b2.size;have h3:w1.heap.size<=w4.heap.size:=h2;exact YAB h1 h3))];exact hK2.1,by rw [World.cell?_of_block (w:=w4) (YAH _ _ _ (by have h1:=Zab m0;have h2:=b2.size;have h3:w1.heap.size<=w4.heap.size:=h2;exact YAB h1 h3))];exact hK2.2⟩;refine hK.out _ _ hK3 (fun _=>?_);clear hK K
  try simp only [putS]
  have h41:w1.heap.size<=w4.heap.size:=b2.size;have l1:=Zab m1;have z0:=(YAH w4 (.cells #[.int .i64 0,.int .i64 0,.slice none 0 0] 108) _ (by omega)).trans ((b2.block _ (Zab m0)).trans m0);have z1:=(YAH w4 (.cells #[.int .i64 0,.int .i64 0,.slice none 0 0] 108) _ (by omega)).trans ((b2.block _ (Zab m1)).trans m1);have zn:=YAE w4 (.cells #[.int .i64 0,.int .i64 0,.slice none 0 0] 108);have ho:=Zaf (b0:=w.heap.size+2) (hn2.alloc (.cells #[.int .i64 0,.int .i64 0,.slice none 0 0] 108)) (by show w.heap.size+2<=w1.heap.size;omega);have hB:Below w.heap.size w (w4.alloc (.cells #[.int .i64 0,.int .i64 0,.slice none 0 0] 108)):=((Zm0 BQ).trans (b2.mono BQ.size)).alloc (by omega) _;have hnb:w.heap.size+1<w4.heap.size:=by omega
  have hvn:∀ g,(Value.slice na x.hops.length nc).ownBlock=some g->g≠w4.heap.size:=fun g hv=>by have:=(hn2.lt g hv).2;omega
  clear hn2 b2 hK2;generalize (w4.alloc (.cells #[.int .i64 0,.int .i64 0,.slice none 0 0] 108))=W5 at *;have u0:=Zaa zn 0;have u1:=Zaa zn 1;have u2:=Zaa zn 2;simp at u0 u1 u2;have fu:=Zae zn;have FN:=Zds (⟨to,x.cost+c,x.hops⟩:WayD) (.slice na x.hops.length nc) zn;have G8:=Za2 W5 w4.heap.size (⟨to,x.cost+c,x.hops⟩:WayD) (.slice na x.hops.length nc);have ZZ0:=(G8.block _ (Zab z0) (by simp;omega)).trans z0;have ZZ1:=(G8.block _ (Zab z1) (by simp;omega)).trans z1;have OO:=ho.kept G8 (by
   cases hv:(Value.slice na x.hops.length nc).ownBlock with
   | none=>exact .inl rfl
   | some g=>exact .inr (fun e=>hvn g hv (by simpa using e)))
  have BB:=hB.grown G8 hB.size (fun k hk=>by simp at hk;omega);have hS6:(Za8 W5 w4.heap.size (⟨to,x.cost+c,x.hops⟩:WayD) (.slice na x.hops.length nc)).cell? ⟨w.heap.size,1,none⟩=some (.int .i64 x.cost)/\(Za8 W5 w4.heap.size (⟨to,x.cost+c,x.hops⟩:WayD) (.slice na x.hops.length nc)).cell? ⟨w.heap.size,2,none⟩=some (.slice p1 x.hops.length q1):=⟨by have e:=Zaa ZZ0 1;simpa using e,by have e:=Zaa ZZ0 2;simpa using e⟩;obtain⟨W6,hW6⟩:∃ W,W=((W5.setCell ⟨w4.heap.size,0,none⟩ (.int .i64 to)).setCell ⟨w4.heap.size,1,none⟩ (.int .i64 (x.cost+c))).setCell ⟨w4.heap.size,2,none⟩ (.slice na x.hops.length nc):=⟨_,rfl⟩;have e6:W6=Za8 W5 w4.heap.size (⟨to,x.cost+c,x.hops⟩:WayD) (.slice na x.hops.length nc):=hW6;rw [<-e6] at FN ZZ0 ZZ1 OO BB hS6;have HW6:=hide hW6;clear e6 hW6;have hnbB:=hnb;have HFN:=hide FN;have HZ0:=hide ZZ0;have HZ1:=hide ZZ1;have HOO:=hide OO;have HBB:=hide BB;clear FN G8 ZZ0 ZZ1 OO BB zn z0 z1 ho hB hvn;refine TC 10 ?_;intro K hK;go_simp;rw [<-HW6.out];refine hK.out _ _ hS6 (fun _=>?_);clear hK K
  try simp only [putS]
  refine wpAnyH_done (by rw [hops.out];kernel_rfl) ?_ _;clear hops ops u0 u1 u2 fu;refine NoPanic.normal ?_;clear HW6;obtain⟨NB,hNB⟩:∃ k,k=w4.heap.size:=⟨_,rfl⟩;rw [<-hNB] at HFN hnbB |-;clear hNB;clear m0 m1 s1 s2 hS0 BQ;have s2:=hS6.2;have f0:=Zaa HFN.out 0;have f1:=Zaa HFN.out 1;have f2:=Zaa HFN.out 2;simp [wayC] at f0 f1 f2;have ff:=Zae HFN.out;have v0:=Zaa HZ1.out 0;have v1:=Zaa HZ1.out 1;have v2:=Zaa HZ1.out 2;simp at v0 v1 v2;have fv:=Zae HZ1.out;have lnB:=Zab HFN.out;by_cases hx0:x.hops=[]
  ·have hDe:D=⟨to,x.cost+c,[to]⟩:=by rw [HD.out,if_pos hx0]
   subst hDe;have hl0:x.hops.length=0:=by rw [hx0];rfl
   have hlb:((x.hops.length:Int)==0)=true:=by rw [hl0];rfl
   have ez:(W6.setCell ⟨NB,2,none⟩ (.slice (some ⟨W6.heap.size,0,none⟩) 1 1)).heap.size=W6.heap.size:=by simp
   have QA:(W6.setCell ⟨NB,2,none⟩ (.slice (some ⟨W6.heap.size,0,none⟩) 1 1)).heap[w.heap.size+1]? = some (.cells #[.int .i64 0,.int .i64 0,.slice none 0 0] 108):=by
    rw [YAO W6 ⟨NB,2,none⟩ _ _ (by show w.heap.size+1≠NB;omega)];exact HZ1.out
   have F1:=Zds ⟨to,x.cost+c,[to]⟩ (.slice (some ⟨W6.heap.size,0,none⟩) 1 1) QA;have G9:=Za2 (W6.setCell ⟨NB,2,none⟩ (.slice (some ⟨W6.heap.size,0,none⟩) 1 1)) (w.heap.size+1) ⟨to,x.cost+c,[to]⟩ (.slice (some ⟨W6.heap.size,0,none⟩) 1 1);have B8:=(HBB.out.setCell (p:=⟨NB,2,none⟩) (by show w.heap.size<=NB;omega) (.slice (some ⟨W6.heap.size,0,none⟩) 1 1)).grown G9 (by rw [ez];omega) (fun k hk=>by simp at hk;omega);have ez2:(Za8 (W6.setCell ⟨NB,2,none⟩ (.slice (some ⟨W6.heap.size,0,none⟩) 1 1)) (w.heap.size+1) ⟨to,x.cost+c,[to]⟩ (.slice (some ⟨W6.heap.size,0,none⟩) 1 1)).heap.size=W6.heap.size:=by simp [Za8]
   have FF:=hide ((YAH (Za8 (W6.setCell ⟨NB,2,none⟩ (.slice (some ⟨W6.heap.size,0,none⟩) 1 1)) (w.heap.size+1) ⟨to,x.cost+c,[to]⟩ (.slice (some ⟨W6.heap.size,0,none⟩) 1 1)) (.cells #[.int .i64 to] 3) (w.heap.size+1) (by rw [ez2];omega)).trans F1);have RW:((Za8 (W6.setCell ⟨NB,2,none⟩ (.slice (some ⟨W6.heap.size,0,none⟩) 1 1)) (w.heap.size+1) ⟨to,x.cost+c,[to]⟩ (.slice (some ⟨W6.heap.size,0,none⟩) 1 1)).alloc (.cells #[.int .i64 to] 3)).ownsRow w.heap.size 3 1 (.slice (some ⟨(Za8 (W6.setCell ⟨NB,2,none⟩ (.slice (some ⟨W6.heap.size,0,none⟩) 1 1)) (w.heap.size+1) ⟨to,x.cost+c,[to]⟩ (.slice (some ⟨W6.heap.size,0,none⟩) 1 1)).heap.size,0,none⟩) 1 1) [to].length (flat intE [to]):=World.ownsRow_lit _ #[.int .i64 to] 1 (by rw [ez2];omega) (by unfold maxLen;omega) (by simp);rw [ez2] at RW;have O9:=hide RW;have B9:=hide (B8.alloc (by rw [ez2];omega) (.cells #[.int .i64 to] 3));have HFIN:=hide (fun W (hW:W=(Za8 (W6.setCell ⟨NB,2,none⟩ (.slice (some ⟨W6.heap.size,0,none⟩) 1 1)) (w.heap.size+1) ⟨to,x.cost+c,[to]⟩ (.slice (some ⟨W6.heap.size,0,none⟩) 1 1)).alloc (.cells #[.int .i64 to] 3))=>show W.heap[w.heap.size+1]? = some (.cells (wayC ⟨to,x.cost+c,[to]⟩ (.slice (some ⟨W6.heap.size,0,none⟩) 1 1)) 108)/\W.ownsRow w.heap.size 3 1 (.slice (some ⟨W6.heap.size,0,none⟩) 1 1) [to].length (flat intE [to])/\Below w.heap.size w W by subst hW;exact⟨FF.out,O9.out,B9.out⟩);have QB:=(YAH (W6.setCell ⟨NB,2,none⟩ (.slice (some ⟨W6.heap.size,0,none⟩) 1 1)) (.cells #[.int .i64 to] 3) (w.heap.size+1) (by rw [ez];omega)).trans QA;have fb0:=Zae QB 0;have fb1:=Zae QB 1;have fb2:=Zae QB 2;have l6:w.heap.size+1<W6.heap.size:=by omega
   clear G9 RW QA QB F1 B8 ez ez2 FF O9 B9 hl0 hx0 HZ0 HZ1 HFN HOO HBB hS6 HOH HD
   go_wp2_with fail
   (try simp only [Exit.inBlock,Exit.then])
   obtain⟨W7,hW7⟩:∃ W,W=(Za8 (W6.setCell ⟨NB,2,none⟩ (.slice (some ⟨W6.heap.size,0,none⟩) 1 1)) (w.heap.size+1) ⟨to,x.cost+c,[to]⟩ (.slice (some ⟨W6.heap.size,0,none⟩) 1 1)).alloc (.cells #[.int .i64 to] 3):=⟨_,rfl⟩;have R7:=HFIN.out W7 hW7;rw [<-hW7];refine bodyPost_ret (results_cell_row rfl _ _ (w.heap.size+1) 108 (wayC ⟨to,x.cost+c,[to]⟩ (.slice (some ⟨W6.heap.size,0,none⟩) 1 1)) (0,0) _ rfl R7.1 Tryz.underlying108 rfl (by kernel_rfl)) rfl ?_;exact⟨_,rfl,R7.2.1,R7.2.2⟩
  ·have hDe:D=⟨to,x.cost+c,x.hops⟩:=by rw [HD.out,if_neg hx0]
   subst hDe;have hl0:x.hops.length≠0:=fun e=>hx0 (YAr e);have hlb:((x.hops.length:Int)==0)=false:=by
    have h1:¬(x.hops.length:Int)=0:=by omega
    simpa using h1
   have FF:=hide (Zds ⟨to,x.cost+c,x.hops⟩ (.slice na x.hops.length nc) HZ1.out);have G9:=Za2 W6 (w.heap.size+1) ⟨to,x.cost+c,x.hops⟩ (.slice na x.hops.length nc);have O9:=hide (Zaf (b0:=w.heap.size) (HOO.out.kept G9 (by
    cases hv:(Value.slice na x.hops.length nc).ownBlock with
    | none=>exact .inl rfl
    | some g=>exact .inr (fun e=>by have:=(HOO.out.lt g hv).1;simp at e;omega))) (by omega))
   have B9:=hide (HBB.out.grown G9 HBB.out.size (fun k hk=>by simp at hk;omega));have hl1:¬(x.hops.length:Int)=0:=by omega
   clear G9 hl0 hx0 HZ0 HZ1 HFN HOO HBB hS6 HOH HD
   go_wp2_with fail
   (try simp only [Exit.inBlock,Exit.then])
   refine bodyPost_ret (results_cell_row rfl _ _ (w.heap.size+1) 108 (wayC ⟨to,x.cost+c,x.hops⟩ (.slice na x.hops.length nc)) (0,0) _ rfl FF.out Tryz.underlying108 rfl (by kernel_rfl)) rfl ?_;exact⟨_,rfl,O9.out,B9.out⟩
 refine AllReadyH.cons (o:=?_) ?_ (fun K hK=>?_) ?_
 rotate_left 1
 ·rw [hops.out];simp only [getS];rfl
 ·rw [if_pos (by rfl)];go_simp;have hK2:(w1.drew.alloc (.cells #[.int .i64 0,.int .i64 0,.slice none 0 0] 108)).cell? ⟨w.heap.size,1,none⟩=some (.int .i64 x.cost)/\(w1.drew.alloc (.cells #[.int .i64 0,.int .i64 0,.slice none 0 0] 108)).cell? ⟨w.heap.size,2,none⟩=some (.slice p1 x.hops.length q1):=⟨by rw [World.cell?_of_block (w:=w1.drew) (YAH _ _ _ (by exact Zab m0))];exact s1,by rw [World.cell?_of_block (w:=w1.drew) (YAH _ _ _ (by exact Zab m0))];exact s2⟩;refine hK.out _ _ hK2 (fun _=>?_);clear hK K
  try simp only [putS]
  refine TC 7 ?_;intro K hK;go_simp;refine (HOH.out (w1.drew.alloc (.cells #[.int .i64 0,.int .i64 0,.slice none 0 0] 108)) ((Zm0 BQ).alloc (by exact BQ.size) _)).mono ?_;rintro e w4 ⟨u,rfl,hn2,b2⟩;obtain⟨na,nc,rfl⟩:=Zac hn2;have l0:w.heap.size<(w1.drew.alloc (.cells #[.int .i64 0,.int .i64 0,.slice none 0 0] 108)).heap.size:=by
   have h1:=Zab m0;have h2:(w1.drew.alloc (.cells #[.int .i64 0,.int .i64 0,.slice none 0 0] 108)).heap.size=w1.heap.size+1:=by
    rw [World.size_alloc_drew]
   omega
  have hK3:w4.cell? ⟨w.heap.size,1,none⟩=some (.int .i64 x.cost)/\w4.cell? ⟨w.heap.size,2,none⟩=some (.slice p1 x.hops.length q1):=⟨by rw [b2.cell l0];exact hK2.1,by rw [b2.cell l0];exact hK2.2⟩;refine hK.out _ _ hK3 (fun _=>?_);clear hK K
  try simp only [putS]
  refine Zbs 8 ?_ ?_ ?_ (by rw [hops.out];kernel_rfl) ?_ ?_ (by assumption) ?_
  rotate_left 2
  ·rw [hops.out];simp only [getS];rfl
  ·intro W hW;obtain⟨k1,k2⟩:=hW;go_simp <;> with_reducible rfl
  ·exact fun _ _ _=>id
  try simp only [putS]
  have hsA:(w1.drew.alloc (.cells #[.int .i64 0,.int .i64 0,.slice none 0 0] 108)).heap.size=w1.heap.size+1:=World.size_alloc_drew w1 _;have l1:=Zab m1;have z0:=(b2.block _ l0).trans ((YAH w1.drew (.cells #[.int .i64 0,.int .i64 0,.slice none 0 0] 108) _ (by exact Zab m0)).trans m0);have z1:=(b2.block _ (by omega)).trans ((YAH w1.drew (.cells #[.int .i64 0,.int .i64 0,.slice none 0 0] 108) _ (by exact Zab m1)).trans m1);have zn:=(b2.block _ (by rw [hsA];exact Nat.lt_succ_self w1.heap.size)).trans (YAE w1.drew (.cells #[.int .i64 0,.int .i64 0,.slice none 0 0] 108));have ho:=Zaf (b0:=w.heap.size+2) hn2 (by omega);have hB:Below w.heap.size w w4:=((Zm0 BQ).alloc (by exact BQ.size) _).trans (b2.mono (by omega));have hnb:w.heap.size+1<w1.heap.size:=l1;have hvn:∀ g,(Value.slice na x.hops.length nc).ownBlock=some g->g≠w1.heap.size:=fun g hv=>by have:=(hn2.lt g hv).1;omega
  have zn:w4.heap[w1.heap.size]? = some (.cells #[.int .i64 0,.int .i64 0,.slice none 0 0] 108):=zn;clear hn2 b2 hK2 hK3;have u0:=Zaa zn 0;have u1:=Zaa zn 1;have u2:=Zaa zn 2;simp at u0 u1 u2;have fu:=Zae zn;have FN:=Zds (⟨to,x.cost+c,x.hops⟩:WayD) (.slice na x.hops.length nc) zn;have G8:=Za2 w4 w1.heap.size (⟨to,x.cost+c,x.hops⟩:WayD) (.slice na x.hops.length nc);have ZZ0:=(G8.block _ (Zab z0) (by simp;omega)).trans z0;have ZZ1:=(G8.block _ (Zab z1) (by simp;omega)).trans z1;have OO:=ho.kept G8 (by
   cases hv:(Value.slice na x.hops.length nc).ownBlock with
   | none=>exact .inl rfl
   | some g=>exact .inr (fun e=>hvn g hv (by simpa using e)))
  have BB:=hB.grown G8 hB.size (fun k hk=>by simp at hk;omega);have hS6:(Za8 w4 w1.heap.size (⟨to,x.cost+c,x.hops⟩:WayD) (.slice na x.hops.length nc)).cell? ⟨w.heap.size,1,none⟩=some (.int .i64 x.cost)/\(Za8 w4 w1.heap.size (⟨to,x.cost+c,x.hops⟩:WayD) (.slice na x.hops.length nc)).cell? ⟨w.heap.size,2,none⟩=some (.slice p1 x.hops.length q1):=⟨by have e:=Zaa ZZ0 1;simpa using e,by have e:=Zaa ZZ0 2;simpa using e⟩;obtain⟨W6,hW6⟩:∃ W,W=((w4.setCell ⟨w1.heap.size,0,none⟩ (.int .i64 to)).setCell ⟨w1.heap.size,1,none⟩ (.int .i64 (x.cost+c))).setCell ⟨w1.heap.size,2,none⟩ (.slice na x.hops.length nc):=⟨_,rfl⟩;have e6:W6=Za8 w4 w1.heap.size (⟨to,x.cost+c,x.hops⟩:WayD) (.slice na x.hops.length nc):=hW6;rw [<-e6] at FN ZZ0 ZZ1 OO BB hS6;have HW6:=hide hW6;clear e6 hW6;have hnbB:=hnb;have HFN:=hide FN;have HZ0:=hide ZZ0;have HZ1:=hide ZZ1;have HOO:=hide OO;have HBB:=hide BB;clear FN G8 ZZ0 ZZ1 OO BB zn z0 z1 ho hB hvn;refine TC 10 ?_;intro K hK;go_simp;rw [<-HW6.out];refine hK.out _ _ hS6 (fun _=>?_);clear hK K
  try simp only [putS]
  refine wpAnyH_done (by rw [hops.out];kernel_rfl) ?_ _;clear hops ops u0 u1 u2 fu;refine NoPanic.normal ?_;clear HW6;obtain⟨NB,hNB⟩:∃ k,k=w1.heap.size:=⟨_,rfl⟩;rw [<-hNB] at HFN hnbB |-;clear hNB;clear m0 m1 s1 s2 hS0 BQ;have s2:=hS6.2;have f0:=Zaa HFN.out 0;have f1:=Zaa HFN.out 1;have f2:=Zaa HFN.out 2;simp [wayC] at f0 f1 f2;have ff:=Zae HFN.out;have v0:=Zaa HZ1.out 0;have v1:=Zaa HZ1.out 1;have v2:=Zaa HZ1.out 2;simp at v0 v1 v2;have fv:=Zae HZ1.out;have lnB:=Zab HFN.out;by_cases hx0:x.hops=[]
  ·have hDe:D=⟨to,x.cost+c,[to]⟩:=by rw [HD.out,if_pos hx0]
   subst hDe;have hl0:x.hops.length=0:=by rw [hx0];rfl
   have hlb:((x.hops.length:Int)==0)=true:=by rw [hl0];rfl
   have ez:(W6.setCell ⟨NB,2,none⟩ (.slice (some ⟨W6.heap.size,0,none⟩) 1 1)).heap.size=W6.heap.size:=by simp
   have QA:(W6.setCell ⟨NB,2,none⟩ (.slice (some ⟨W6.heap.size,0,none⟩) 1 1)).heap[w.heap.size+1]? = some (.cells #[.int .i64 0,.int .i64 0,.slice none 0 0] 108):=by
    rw [YAO W6 ⟨NB,2,none⟩ _ _ (by show w.heap.size+1≠NB;omega)];exact HZ1.out
   have F1:=Zds ⟨to,x.cost+c,[to]⟩ (.slice (some ⟨W6.heap.size,0,none⟩) 1 1) QA;have G9:=Za2 (W6.setCell ⟨NB,2,none⟩ (.slice (some ⟨W6.heap.size,0,none⟩) 1 1)) (w.heap.size+1) ⟨to,x.cost+c,[to]⟩ (.slice (some ⟨W6.heap.size,0,none⟩) 1 1);have B8:=(HBB.out.setCell (p:=⟨NB,2,none⟩) (by show w.heap.size<=NB;omega) (.slice (some ⟨W6.heap.size,0,none⟩) 1 1)).grown G9 (by rw [ez];omega) (fun k hk=>by simp at hk;omega);have ez2:(Za8 (W6.setCell ⟨NB,2,none⟩ (.slice (some ⟨W6.heap.size,0,none⟩) 1 1)) (w.heap.size+1) ⟨to,x.cost+c,[to]⟩ (.slice (some ⟨W6.heap.size,0,none⟩) 1 1)).heap.size=W6.heap.size:=by simp [Za8]
   have FF:=hide ((YAH (Za8 (W6.setCell ⟨NB,2,none⟩ (.slice (some ⟨W6.heap.size,0,none⟩) 1 1)) (w.heap.size+1) ⟨to,x.cost+c,[to]⟩ (.slice (some ⟨W6.heap.size,0,none⟩) 1 1)) (.cells #[.int .i64 to] 3) (w.heap.size+1) (by rw [ez2];omega)).trans F1);have RW:((Za8 (W6.setCell ⟨NB,2,none⟩ (.slice (some ⟨W6.heap.size,0,none⟩) 1 1)) (w.heap.size+1) ⟨to,x.cost+c,[to]⟩ (.slice (some ⟨W6.heap.size,0,none⟩) 1 1)).alloc (.cells #[.int .i64 to] 3)).ownsRow w.heap.size 3 1 (.slice (some ⟨(Za8 (W6.setCell ⟨NB,2,none⟩ (.slice (some ⟨W6.heap.size,0,none⟩) 1 1)) (w.heap.size+1) ⟨to,x.cost+c,[to]⟩ (.slice (some ⟨W6.heap.size,0,none⟩) 1 1)).heap.size,0,none⟩) 1 1) [to].length (flat intE [to]):=World.ownsRow_lit _ #[.int .i64 to] 1 (by rw [ez2];omega) (by unfold maxLen;omega) (by simp);rw [ez2] at RW;have O9:=hide RW;have B9:=hide (B8.alloc (by rw [ez2];omega) (.cells #[.int .i64 to] 3));have HFIN:=hide (fun W (hW:W=(Za8 (W6.setCell ⟨NB,2,none⟩ (.slice (some ⟨W6.heap.size,0,none⟩) 1 1)) (w.heap.size+1) ⟨to,x.cost+c,[to]⟩ (.slice (some ⟨W6.heap.size,0,none⟩) 1 1)).alloc (.cells #[.int .i64 to] 3))=>show W.heap[w.heap.size+1]? = some (.cells (wayC ⟨to,x.cost+c,[to]⟩ (.slice (some ⟨W6.heap.size,0,none⟩) 1 1)) 108)/\W.ownsRow w.heap.size 3 1 (.slice (some ⟨W6.heap.size,0,none⟩) 1 1) [to].length (flat intE [to])/\Below w.heap.size w W by subst hW;exact⟨FF.out,O9.out,B9.out⟩);have QB:=(YAH (W6.setCell ⟨NB,2,none⟩ (.slice (some ⟨W6.heap.size,0,none⟩) 1 1)) (.cells #[.int .i64 to] 3) (w.heap.size+1) (by rw [ez];omega)).trans QA;have fb0:=Zae QB 0;have fb1:=Zae QB 1;have fb2:=Zae QB 2;have l6:w.heap.size+1<W6.heap.size:=by omega
   clear G9 RW QA QB F1 B8 ez ez2 FF O9 B9 hl0 hx0 HZ0 HZ1 HFN HOO HBB hS6 HOH HD
   go_wp2_with fail
   (try simp only [Exit.inBlock,Exit.then])
   obtain⟨W7,hW7⟩:∃ W,W=(Za8 (W6.setCell ⟨NB,2,none⟩ (.slice (some ⟨W6.heap.size,0,none⟩) 1 1)) (w.heap.size+1) ⟨to,x.cost+c,[to]⟩ (.slice (some ⟨W6.heap.size,0,none⟩) 1 1)).alloc (.cells #[.int .i64 to] 3):=⟨_,rfl⟩;have R7:=HFIN.out W7 hW7;rw [<-hW7];refine bodyPost_ret (results_cell_row rfl _ _ (w.heap.size+1) 108 (wayC ⟨to,x.cost+c,[to]⟩ (.slice (some ⟨W6.heap.size,0,none⟩) 1 1)) (0,0) _ rfl R7.1 Tryz.underlying108 rfl (by kernel_rfl)) rfl ?_;exact⟨_,rfl,R7.2.1,R7.2.2⟩
  ·have hDe:D=⟨to,x.cost+c,x.hops⟩:=by rw [HD.out,if_neg hx0]
   subst hDe;have hl0:x.hops.length≠0:=fun e=>hx0 (YAr e);have hlb:((x.hops.length:Int)==0)=false:=by
    have h1:¬(x.hops.length:Int)=0:=by omega
    simpa using h1
   have FF:=hide (Zds ⟨to,x.cost+c,x.hops⟩ (.slice na x.hops.length nc) HZ1.out);have G9:=Za2 W6 (w.heap.size+1) ⟨to,x.cost+c,x.hops⟩ (.slice na x.hops.length nc);have O9:=hide (Zaf (b0:=w.heap.size) (HOO.out.kept G9 (by
    cases hv:(Value.slice na x.hops.length nc).ownBlock with
    | none=>exact .inl rfl
    | some g=>exact .inr (fun e=>by have:=(HOO.out.lt g hv).1;simp at e;omega))) (by omega))
   have B9:=hide (HBB.out.grown G9 HBB.out.size (fun k hk=>by simp at hk;omega));have hl1:¬(x.hops.length:Int)=0:=by omega
   clear G9 hl0 hx0 HZ0 HZ1 HFN HOO HBB hS6 HOH HD
   go_wp2_with fail
   (try simp only [Exit.inBlock,Exit.then])
   refine bodyPost_ret (results_cell_row rfl _ _ (w.heap.size+1) 108 (wayC ⟨to,x.cost+c,x.hops⟩ (.slice na x.hops.length nc)) (0,0) _ rfl FF.out Tryz.underlying108 rfl (by kernel_rfl)) rfl ?_;exact⟨_,rfl,O9.out,B9.out⟩
 exact AllReadyH.nil
theorem Zkm {f r u:Int}{l:Lk}:u∈hits f r l↔ZbD f u r l=true:=by
 simp only [hits,hit1,hit2,ZbD,YAF];by_cases h1:l.a=f/\l.r=r <;> by_cases h2:l.b=f/\l.r=r <;> simp [h1,h2] <;> grind
theorem Zmb {f r u:Int}:u∈gath ls f r ls.length↔∃ l∈ls,ZbD f u r l=true:=by
 unfold gath;rw [YAh,YAp];exact⟨fun ⟨l,hl,hu⟩=>⟨l,hl,Zkm.1 hu⟩,fun ⟨l,hl,hu⟩=>⟨l,hl,Zkm.2 hu⟩⟩
theorem Zj5 (h:∀ l∈ls,ZaP n l=true)(f t r:Int):0<ZcH ls f t r↔∃ l∈ls,ZbD f t r l=true:=by
 constructor
 ·intro hc;exact Zog (by omega)
 ·rintro ⟨l,hl,hh⟩;unfold ZcH;cases hf:ls.find? (ZbD f t r) with
  | none=>exact absurd hh (by simpa using List.find?_eq_none.1 hf l hl)
  | some m=>
   have:=h m (List.mem_of_find?_eq_some hf);unfold ZaP inB at this;simp only [YAJ,YAS] at this;simp;omega
theorem ZoY (h:∀ l∈ls,ZaP n l=true)(f r:Int):decide (0<(ZgA ls f r).length)=decide (0<(Zed ls f r).length):=by
 rw [Zmw,decide_eq_decide,List.length_pos_iff_exists_mem,List.length_pos_iff_exists_mem];constructor
 ·rintro ⟨u,hu⟩;obtain⟨l,hl,hh⟩:=Zmb.1 hu;have h1:=h l hl;unfold ZaP inB at h1;simp only [YAJ,YAS] at h1;have h2:=hh;unfold ZbD at h2;simp only [YAJ,YAv,beq_iff_eq] at h2;refine⟨u,?_⟩;unfold Zed;refine YAP.2 ⟨?_,YAT ((Zj5 h f u r).2 ⟨l,hl,hh⟩)⟩;have:1<=u/\u<=6:=by omega
  have:u=1\/u=2\/u=3\/u=4\/u=5\/u=6:=by omega
  simpa using this
 ·rintro ⟨u,hu⟩;unfold Zed at hu;obtain⟨l,hl,hh⟩:=(Zj5 h f u r).1 (by simpa using (YAP.1 hu).2);exact⟨u,Zmb.2 ⟨l,hl,hh⟩⟩
theorem Zdx (h:∀ l∈ls,ZaP n l=true)(f:Int):ZbR ls f=Zas ls f:=by
 unfold ZbR Zas;congr 1;funext r;exact ZoY h f r
theorem ZjY (h:∀ l∈ls,ZaP n l=true)(f:Int):ZiO ls f=ZeW ls f:=by
 unfold ZiO ZeW;rw [Zdx h]
end Go.Proofs.YtikloccefmofdaaGreat
namespace Go.Proofs.YtikloccefmofdaaGreat
open Go.RowKit

theorem ZhV (a b:Lk):ZbF a b=true↔(a.a<b.a\/(a.a=b.a/\(a.b<b.b\/(a.b=b.b/\a.r<b.r)))):=by
 simp [ZbF]

theorem Ziu (a b:Th):ZbH a b=true↔(a.k<b.k\/(a.k=b.k/\a.o<b.o)):=by
 simp [ZbH]

def ZlW (n:Int)(ls:List Lk):Prop:=(∀ x∈ls,ZaP n x=true)/\ls.Pairwise (fun x y=>ZbF x y=true)

def ZlX (n:Int)(ts:List Th):Prop:=(∀ x∈ts,Zc9 n x=true)/\ts.Pairwise (fun x y=>ZbH x y=true)

theorem Zf7 {α:Type}{p q:α->Bool}(h:∀ x,p x=true->q x=true->False):∀ ls:List α,(ls.filter p).length+(ls.filter q).length<=ls.length
 | []=>by simp
 | x::xs=>by
  have ih:=Zf7 h xs;have hx:=h x;cases hp:p x <;> cases hq:q x <;> simp_all <;> omega

theorem ZfU (ls:List Lk)(l:Lk):(Zgi ls l).length<=ls.length+1:=by
 have h:=Zf7 (p:=fun x=>ZbF x l) (q:=fun x=>ZbF l x) (fun x h1 h2=>by
  simp only [ZhV] at h1 h2;omega) ls
 unfold Zgi;simp only [YAN,YAk,List.length_nil];omega

theorem Zq2 (ls:List Th)(l:Th):(putT ls l).length<=ls.length+1:=by
 have h:=Zf7 (p:=fun x=>ZbH x l) (q:=fun x=>ZbH l x) (fun x h1 h2=>by
  simp only [Ziu] at h1 h2;omega) ls
 unfold putT;simp only [YAN,YAk,List.length_nil];omega

theorem ZdG {n:Int}{ls:List Lk}{l:Lk}(h:ZlW n ls)(hl:ZaP n l=true):ZlW n (Zgi ls l):=by
 refine⟨?_,?_⟩
 ·intro x hx;simp only [Zgi,YAF,YAP,YAb,List.not_mem_nil,or_false] at hx;rcases hx with (⟨h1,_⟩ | rfl) | ⟨h1,_⟩
  ·exact h.1 x h1
  ·exact hl
  ·exact h.1 x h1
 ·unfold Zgi;refine YAM.2 ⟨YAM.2 ⟨h.2.filter _,List.pairwise_singleton _ _,?_⟩,h.2.filter _,?_⟩
  ·intro x hx y hy;simp only [YAP,YAb,List.not_mem_nil,or_false] at hx hy;rw [hy];exact hx.2
  ·intro x hx y hy;simp only [YAF,YAP,YAb,List.not_mem_nil,or_false] at hx hy;rcases hx with ⟨_,h1⟩ | rfl
   ·have h2:=hy.2;simp only [ZhV] at h1 h2 |-
    omega
   ·exact hy.2

theorem ZnE {n:Int}{ls:List Th}{l:Th}(h:ZlX n ls)(hl:Zc9 n l=true):ZlX n (putT ls l):=by
 refine⟨?_,?_⟩
 ·intro x hx;simp only [putT,YAF,YAP,YAb,List.not_mem_nil,or_false] at hx;rcases hx with (⟨h1,_⟩ | rfl) | ⟨h1,_⟩
  ·exact h.1 x h1
  ·exact hl
  ·exact h.1 x h1
 ·unfold putT;refine YAM.2 ⟨YAM.2 ⟨h.2.filter _,List.pairwise_singleton _ _,?_⟩,h.2.filter _,?_⟩
  ·intro x hx y hy;simp only [YAP,YAb,List.not_mem_nil,or_false] at hx hy;rw [hy];exact hx.2
  ·intro x hx y hy;simp only [YAF,YAP,YAb,List.not_mem_nil,or_false] at hx hy;rcases hx with ⟨_,h1⟩ | rfl
   ·have h2:=hy.2;simp only [Ziu] at h1 h2 |-
    omega
   ·exact hy.2

theorem Zl0 {α:Type}{ok:α->Bool}{ls:List α}(h:∀ x∈ls,ok x=true):ZbM ok ls=true:=Za4 fun j hj=>by
 rw [Zck (YAA hj)];exact h _ (YAt hj)

theorem Zn1 {α:Type}{ord:α->α->Int}{ls:List α}(h:ls.Pairwise (fun x y=>ord x y<0)):ascB ord ls=true:=Za4 fun j hj=>by
 match j,hj with
 | 0,_=>rfl
 | j+1,hj=>
  rw [ZbX (YAA (by omega)) (YAA hj)];exact YAT (YAa.1 h j (j+1) (by omega) hj (by omega))

theorem ZoS {n:Int}{ls:List Lk}(h:ZlW n ls)(hl:ls.length<=12):Zb1 n ls=true:=by
 unfold Zb1;rw [YAT hl,Zl0 h.1,Zn1 (h.2.imp fun hxy=>by rw [ZjO] at hxy;exact of_decide_eq_true hxy)];rfl

theorem ZnN {n:Int}{ls:List Th}(h:ZlX n ls)(hl:ls.length<=4):Zbt n ls=true:=by
 unfold Zbt;rw [YAT hl,Zl0 h.1,Zn1 (h.2.imp fun hxy=>by rw [ZkH] at hxy;exact of_decide_eq_true hxy)];rfl

theorem ZfA {x a b:Int}(h1:a<=x)(h2:x<=b):inB x a b=true:=by simp [inB,h1,h2]

theorem Zd8 {n a b c r:Int}(hn:1<=n/\n<=6)(ha:1<=a)(hab:a<b)(hb:b<=n)(hc:1<=c/\c<=1000)(hr:0<=r/\r<=2):ZaP n ⟨a,b,c,r⟩=true:=by
 unfold ZaP;simp only [];rw [ZfA hn.1 hn.2,ZfA ha (by omega),ZfA (by omega) hb,ZfA hc.1 hc.2,ZfA hr.1 hr.2,YAT hab];rfl

theorem Zsh {n o k c:Int}{f:Bool}(ho:1<=o/\o<=n)(hk:1<=k/\k<=9)(hc:1<=c/\c<=1000):Zc9 n ⟨o,k,c,f⟩=true:=by
 unfold Zc9;simp only [];rw [ZfA ho.1 ho.2,ZfA hk.1 hk.2,ZfA hc.1 hc.2];rfl

structure NetSt (w wr:World) (p B0 z:Nat) (a:Option Addr) (len cap:Nat) (N:Int) (v1 v2:Value) (ls:List Lk) (ts:List Th):Prop where
 cur:Cur wr p a len cap
 bel:Below p w wr
 new:w.heap.size<=B0
 gro:w.grownBy wr (some p)
 box:wr.heap[z]? = some (.cells #[.int .i64 N,v1,v2] 27)
 res:wr.heap[B0]? = some (.cells #[.int .i64 0,.slice none 0 0,.slice none 0 0] 27)
 o1:wr.ownsRow (z+1) 78 4 v1 ls.length (flat lkE ls)
 o2:wr.ownsRow (z+1) 65 4 v2 ts.length (flat thE ts)

theorem Zc0 {w w':World}{base size p:Nat}{e:TypeId}{v:Value}{n:Nat}{xs:List Value}(h:w.ownsRow base e size v n xs)(hg:w.grownBy w' (some p))(hp:p<base):w'.ownsRow base e size v n xs:=h.kept hg (by
 rcases h.2 with ⟨e,_⟩ | ⟨g,cp,cur,e,hb,_⟩
 ·exact .inl (by rw [e];rfl)
 ·refine .inr ?_;rw [e];intro h;simp [Value.ownBlock] at h;omega)

theorem Zhb {w w':World}(hb:Below w.heap.size w w'):w.grownBy w' none:=⟨hb.os,hb.tape,hb.output,hb.size,fun k hk _=>hb.block k hk⟩

section
variable {w wr w':World} {p B0 z:Nat} {a:Option Addr} {len cap:Nat} {N:Int} {v1 v2:Value} {ls:List Lk} {ts:List Th}

theorem NetSt.grown (h:NetSt w wr p B0 z a len cap N v1 v2 ls ts)(hc:Cur w' p a len cap)(hg:wr.grownBy w' (some p))(hp:p<B0)(hz:B0<z):NetSt w w' p B0 z a len cap N v1 v2 ls ts where
 cur:=hc
 bel:=h.bel.grown hg (by have:=Zci h.cur;omega) (fun k hk=>by simp at hk;omega)
 new:=h.new
 gro:=Zai h.gro hg
 box:=by rw [hg.block z (Zab h.box) (by simp;omega)];exact h.box
 res:=by rw [hg.block B0 (Zab h.res) (by simp;omega)];exact h.res
 o1:=Zc0 h.o1 hg (by omega)
 o2:=Zc0 h.o2 hg (by omega)

theorem NetSt.below (h:NetSt w wr p B0 z a len cap N v1 v2 ls ts)(hb:Below wr.heap.size wr w'):NetSt w w' p B0 z a len cap N v1 v2 ls ts where
 cur:=h.cur.grown (Zhb hb) (fun b _=>by simp)
 bel:=h.bel.trans (hb.mono (by have:=Zci h.cur;omega))
 new:=h.new
 gro:=Zai h.gro ⟨hb.os,hb.tape,hb.output,hb.size,fun k hk _=>hb.block k hk⟩
 box:=by rw [hb.block z (Zab h.box)];exact h.box
 res:=by rw [hb.block B0 (Zab h.res)];exact h.res
 o1:=Zad h.o1 hb (YA _)
 o2:=Zad h.o2 hb (YA _)

theorem NetSt.alloc (h:NetSt w wr p B0 z a len cap N v1 v2 ls ts)(o:Obj):NetSt w (wr.alloc o) p B0 z a len cap N v1 v2 ls ts:=h.below ((YAC _ _).alloc (YA _) _)

theorem NetSt.put1 (h:NetSt w wr p B0 z a len cap N v1 v2 ls ts)(hb:Below wr.heap.size wr w'){v':Value}{ls':List Lk}(ho:w'.ownsRow (wr.heap.size+1) 78 4 v' ls'.length (flat lkE ls'))(hp:p<B0)(hz:B0<z):NetSt w (w'.setCell ⟨z,1,none⟩ v') p B0 z a len cap N v' v2 ls' ts:=
 have h2:=h.below hb;have hzl:=Zab h.box
 {cur:=h2.cur.grown (Zaw w' z 1 v') (fun b hb=>by simp;omega)
  bel:=h2.bel.setCell (by show p<=z;omega) _
  new:=h.new
  gro:=⟨h2.gro.os,h2.gro.tape,h2.gro.output,by have:=h2.gro.size;simpa using this,fun b hb hne=>by rw [YAO w' ⟨z,1,none⟩ _ _ (by show b≠z;have:=h.new;omega)];exact h2.gro.block b hb hne⟩
  box:=YAU _ _ 1 _ _ v' h2.box
  res:=by rw [YAO w' ⟨z,1,none⟩ _ _ (by show B0≠z;omega)];exact h2.res
  o1:=ZaG (Zaf ho (by omega)) (by omega)
  o2:=ZaG h2.o2 (by omega) }

theorem NetSt.put2 (h:NetSt w wr p B0 z a len cap N v1 v2 ls ts)(hb:Below wr.heap.size wr w'){v':Value}{ts':List Th}(ho:w'.ownsRow (wr.heap.size+1) 65 4 v' ts'.length (flat thE ts'))(hp:p<B0)(hz:B0<z):NetSt w (w'.setCell ⟨z,2,none⟩ v') p B0 z a len cap N v1 v' ls ts':=
 have h2:=h.below hb;have hzl:=Zab h.box
 {cur:=h2.cur.grown (Zaw w' z 2 v') (fun b hb=>by simp;omega)
  bel:=h2.bel.setCell (by show p<=z;omega) _
  new:=h.new
  gro:=⟨h2.gro.os,h2.gro.tape,h2.gro.output,by have:=h2.gro.size;simpa using this,fun b hb hne=>by rw [YAO w' ⟨z,2,none⟩ _ _ (by show b≠z;have:=h.new;omega)];exact h2.gro.block b hb hne⟩
  box:=YAU _ _ 2 _ _ v' h2.box
  res:=by rw [YAO w' ⟨z,2,none⟩ _ _ (by show B0≠z;omega)];exact h2.res
  o1:=ZaG h2.o1 (by omega)
  o2:=ZaG (Zaf ho (by omega)) (by omega) }

theorem NetSt.c0 (h:NetSt w wr p B0 z a len cap N v1 v2 ls ts):wr.cell? ⟨z,0,none⟩=some (.int .i64 N):=by rw [Zaa h.box];rfl

theorem NetSt.c1 (h:NetSt w wr p B0 z a len cap N v1 v2 ls ts):wr.cell? ⟨z,1,none⟩=some v1:=by rw [Zaa h.box];rfl

theorem NetSt.c2 (h:NetSt w wr p B0 z a len cap N v1 v2 ls ts):wr.cell? ⟨z,2,none⟩=some v2:=by rw [Zaa h.box];rfl

theorem NetSt.drew (h:NetSt w wr p B0 z a len cap N v1 v2 ls ts):NetSt w wr.drew p B0 z a len cap N v1 v2 ls ts:=h.below (YAC _ _).drew
end
end Go.Proofs.YtikloccefmofdaaGreat
namespace Go.Proofs.YtikloccefmofdaaGreat
open Go.RowKit
set_option linter.unusedSimpArgs false
set_option linter.unusedVariables false
set_option maxRecDepth 100000
set_option maxHeartbeats 8000000


end Go.Proofs.YtikloccefmofdaaGreat
