/-
  Parts.
-/
import Derived.Test.YtcnjnibnecpddaaGreatTr10
import Derived.Test.YtcnjnibnecpddaaGreatTr11
namespace Go.Proofs.YtcnjnibnecpddaaGreat
open Go.RowKit
set_option linter.unusedSimpArgs false
set_option linter.unusedVariables false
set_option maxRecDepth 100000
set_option maxHeartbeats 8000000
variable {K area n x:Int}{ls:List Lk}{xs:List RecD}{b g j k src u v:Nat}{F:Nat->Bool}{c:Nat->Int}{h:Nat->List Int}{L o:Nat->Nat->Int}{hv:Nat->Value}{W:World}

def Zej (ns:List Nr)(bk:Int->Int)(v:Nat):Nat->Int
 | 0=>0
 | k+1=>match ns[k]? with
  | some n=>if n.to=(v:Int)/\inB n.to 1 6=true/\0<bk n.to then n.c else Zej ns bk v k
  | none=>Zej ns bk v k
def Znq (xs:List RecD)(area:Int)(u v:Nat):Int:=Zej (ZcC xs area u).near (fun b=>Ze4 xs area b u) v (ZcC xs area u).near.length
def ZhW (o:Nat->Nat->Int)(i:Nat):Value:=M (o (i / 7) (i%7))
theorem Zmq  (h:W.heap[g]? = some (.cells (rowA (ZhW o) 49) 3)) {a:Nat} (ha:a<=6) (hb:b<=6):W.cell? (U g (a*7+b))=some (M (o a b)):=by
 rw [ZfW h (by omega)];unfold ZhW;rw [show (a*7+b) / 7=a by omega,show (a*7+b)%7=b by omega]
theorem Zo3  (h:W.heap[g]? = some (.cells (rowA (ZhW o) 49) 3)) {a:Nat} (hb:b<=6) (x:Int):
  (W.setCell (U g (a*7+b)) (M x)).heap[g]? = some (.cells (rowA (ZhW (fun u v=>if u=a/\v=b then x else o u v)) 49) 3):=by
 rw [ZgM h,ZdP (fun i _=>?_)];unfold ZhW;show (if i=a*7+b then Value.int .i64 x else M (o (i / 7) (i%7)))=M (if i / 7=a/\i%7=b then x else o (i / 7) (i%7));by_cases e:i=a*7+b
 ·rw [if_pos e,if_pos (by omega)]
 ·rw [if_neg e,if_neg (by omega)]
theorem ZeG {ns:List Nr}{n:Nr}(bk:Int->Int)(v:Nat)(h:ns[k]? = some n):Zej ns bk v (k+1)=if n.to=(v:Int)/\inB n.to 1 6=true/\0<bk n.to then n.c else Zej ns bk v k:=by
 show (match ns[k]? with
  | some n=>if n.to=(v:Int)/\inB n.to 1 6=true/\0<bk n.to then n.c else Zej ns bk v k
  | none=>Zej ns bk v k)=_
 rw [h]
theorem Zeg {a b:Int}:inB x a b=true↔a<=x/\x<=b:=by simp [inB]
def ZeH (xs:List RecD)(area:Int)(k j u v:Nat):Int:=if u<=k then Znq xs area u v else if u=k+1 then Zej (ZcC xs area u).near (fun b=>Ze4 xs area b u) v j else 0
def ZjN (xs:List RecD)(area:Int)(k j:Nat)(o:Nat->Nat->Int):Prop:=∀ u v,1<=u->u<=6->1<=v->v<=6->o u v=ZeH xs area k j u v
theorem ZqK  (h:ZjN xs area k (ZcC xs area ((k+1:Nat):Int)).near.length o):ZjN xs area (k+1) 0 o:=by
 intro u v h1 h2 h3 h4;rw [h u v h1 h2 h3 h4];unfold ZeH;by_cases e:u<=k
 ·rw [if_pos e,if_pos (by omega)]
 ·rw [if_neg e];by_cases e2:u=k+1
  ·rw [if_pos e2,if_pos (by omega)];subst e2;rfl
  ·rw [if_neg e2,if_neg (by omega)]
   split
   ·rfl
   ·rfl
theorem Zmu {n:Nr}(h:ZjN xs area k j o) (hn:(ZcC xs area ((k+1:Nat):Int)).near[j]? = some n) (hno:¬(inB n.to 1 6=true/\0<Ze4 xs area n.to ((k+1:Nat):Int))):ZjN xs area k (j+1) o:=by
 intro u v h1 h2 h3 h4;rw [h u v h1 h2 h3 h4];unfold ZeH;by_cases e:u<=k
 ·rw [if_pos e,if_pos e]
 ·rw [if_neg e,if_neg e];by_cases e2:u=k+1
  ·rw [if_pos e2,if_pos e2];subst e2;rw [ZeG _ v hn,if_neg (fun hc=>hno hc.2)]
  ·rw [if_neg e2,if_neg e2]
theorem Zr6 {t:Nat}{n:Nr}(h:ZjN xs area k j o) (hn:(ZcC xs area ((k+1:Nat):Int)).near[j]? = some n) (hyes:inB n.to 1 6=true/\0<Ze4 xs area n.to ((k+1:Nat):Int)) (ht:n.to=(t:Int)):ZjN xs area k (j+1) (fun u v=>if u=k+1/\v=t then n.c else o u v):=by
 intro u v h1 h2 h3 h4;have hh:=h u v h1 h2 h3 h4;unfold ZeH at hh |-;by_cases e:u<=k
 ·rw [if_pos e] at hh |-
  show (if u=k+1/\v=t then n.c else o u v)=_;rw [if_neg (by omega)];exact hh
 ·rw [if_neg e] at hh |-
  by_cases e2:u=k+1
  ·rw [if_pos e2] at hh |-
   subst e2;rw [ZeG _ v hn];show (if k+1=k+1/\v=t then n.c else o (k+1) v)=_;by_cases e3:v=t
   ·rw [if_pos ⟨rfl,e3⟩,if_pos ⟨by omega,hyes⟩]
   ·rw [if_neg (fun hc=>e3 hc.2),if_neg (fun hc=>by have:=hc.1;omega)];exact hh
  ·rw [if_neg e2] at hh |-
   show (if u=k+1/\v=t then n.c else o u v)=_;rw [if_neg (fun hc=>e2 hc.1)];exact hh
theorem ZnU (v:Value)(ps:List RP)(hi:Nat)(area:Int)(w:World)(hv:RecsIn w hi v ps)(hhi:hi<=w.heap.size)(hn:tot ps<=1048576):
  Calls Tryz.prog 234 #[v,M area] w fun e w'=>∃ o,e=.returned (.slice (some (U w.heap.size 0)) 49 49)/\w'.heap[w.heap.size]? = some (.cells (rowA (ZhW o) 49) 3)/\(∀ u v,1<=u->u<=6->1<=v->v<=6->o u v=Znq (fsts ps) area u v)/\T_ w w':=by
 obtain⟨a1,c1,rfl⟩:=Zac hv.row;have HN:=hide (fun node W (hb:T_ w W)=>ZhF (.slice a1 ps.length c1) ps hi area node W (hv.below hb hhi) (YAG hhi hb.size) hn);have HT:=hide (fun a b W (hb:T_ w W)=>ZnZ (.slice a1 ps.length c1) ps hi area a b W (hv.below hb hhi) (YAG hhi hb.size) hn);clear hv;have g0:=YAE w (.cells (rowA (fun _=>M 0) 49) 3);have B0:T_ w (w.alloc (.cells (rowA (fun _=>M 0) 49) 3)):=(YAC _ _).alloc (YA _) _
 go_enter Tryz.func234,Tryz.ntmps234
 go_wp2_with (first | (at_make;refine Zcc _ rfl _ _ 28 rfl 3 (M 0) 8 Tryz.underlying28 Tryz.info3 rfl 49 rfl rfl (by omega) (by omega) ?_))
 generalize w.alloc (.cells (rowA (fun _=>M 0) 49) 3)=w0 at *;go_wp2
 go_loopw [6] (fun i wr=>∃ (k:Nat) (o:Nat->Nat->Int),k<=6/\i=M ((k:Int)+1)/\Hid (ZjN (fsts ps) area k 0 o)/\wr.heap[w.heap.size]? = some (.cells (rowA (ZhW o) 49) 3)/\T_ w wr) (fun i _=>8-(intOf i).toNat)
 case atStart=>exact ⟨0,fun _ _=>0,by omega,rfl,hide (fun u v h1 h2 h3 h4=>by unfold ZeH;rw [if_neg (by omega)];split <;> rfl),g0,B0⟩
 case round=>
  rename World=>wo
  obtain⟨k,o,hk,rfl,HO,hg,hnx⟩:=hrel;have hsz:=hnx.size;by_cases hlt:k<6
  ·have hk6:(k:Int)+1<=6:=by omega
   have hw1:IntKind.i64.wrap ((k:Int)+1+1)=((k+1:Nat):Int)+1:=by rw [ZaN _ (by omega) (by omega)];omega
   have J:=hide (HN ((k:Int)+1) wo hnx);obtain⟨D,hD⟩:∃ D,D=ZcC (fsts ps) area ((k:Int)+1):=⟨_,rfl⟩;obtain⟨NB,hNB⟩:∃ b,b=Zhj (fsts ps) area ((k:Int)+1):=⟨_,rfl⟩;rw [<-hD, <-hNB] at J;have HD:=hide hD;clear hD hNB;unfold recC at J
   go_wp2_with fail
   refine J.out.mono ?_;rintro e w1 ⟨u,rfl,hu,hul,b1⟩;obtain⟨ua,uc,rfl⟩:=ZaG.shape hu;have hx:=YAE w1 (.cells #[M D.area,M D.kind,M D.owner,M D.key,M D.seq,.slice ua D.near.length uc,M D.cost,.bool D.far] 39);have BX:T_ w1 (w1.alloc (.cells #[M D.area,M D.kind,M D.owner,M D.key,M D.seq,.slice ua D.near.length uc,M D.cost,.bool D.far] 39)):=(YAC _ _).alloc (YA _) _;obtain⟨w2,hw2⟩:∃ W,W=w1.alloc (.cells #[M D.area,M D.kind,M D.owner,M D.key,M D.seq,.slice ua D.near.length uc,M D.cost,.bool D.far] 39):=⟨_,rfl⟩;rw [<-hw2] at hx BX;have B12:T_ wo w2:=b1.trans (BX.mono b1.size);have B2:T_ w w2:=hnx.trans (B12.mono hsz);have HU:Hid (ZaG w2 (.slice ua D.near.length uc) D.near hi):=hide (Zaw.later hu BX (by have:=b1.size;omega));have hs2:=Zab hx;have hg2:=(B12.block _ (Zab hg)).trans hg;obtain⟨z,hz⟩:∃ z,z=w1.heap.size:=⟨_,rfl⟩;have HZ:=hide hz;have hzg:w.heap.size<z:=by have:=Zab hg;have:=b1.size;omega
   have HXX:=hide hx;have HG2:=hide hg2;clear hu hx hg hg2 BX b1 J;go_wp2;rw [<-hw2];rw [<-hz];rw [<-hz] at HXX hs2;clear hw2 hz
   go_loopw [9] (fun i wr=>∃ (j:Nat) (o:Nat->Nat->Int),j<=D.near.length/\i=M (j:Int)/\Hid (ZjN (fsts ps) area k j o)/\Hid (wr.heap[w.heap.size]? = some (.cells (rowA (ZhW o) 49) 3))/\wr.heap[z]? = some (.cells #[M D.area,M D.kind,M D.owner,M D.key,M D.seq,.slice ua D.near.length uc,M D.cost,.bool D.far] 39)/\Below w.heap.size w2 wr) (fun i _=>D.near.length-(intOf i).toNat)
   case atStart=>exact ⟨0,o,by omega,rfl,HO,HG2,HXX,YAC _ _⟩
   case round=>
    obtain⟨j,o,hj,rfl,HO,HG,hz,hnq⟩:=hrel;have BQ:T_ w wr:=B2.trans hnq;have d5:=Zaa hz 5;simp at d5;have HZZ:=hide hz;clear hz;by_cases hjl:j<D.near.length
    ·obtain ⟨n,hn⟩:∃ n,D.near[j]? = some n:=⟨D.near[j],YAA hjl⟩;have hNq:=(Zaw.later HU hnq hhi);obtain⟨b,off,cp,hve,hbb,c0,c1⟩:=ZaG.cells hNq j n hn;cases hve;have hji:(0:Int)<=(j:Int):=by omega
     have hjj:(j:Int)<(D.near.length:Int):=by omega
     have HNJ:=hide hn;clear hn hNq;by_cases hin:inB n.to 1 6=true
     ·obtain ⟨t,ht⟩:∃ t:Nat,n.to=(t:Int):=⟨n.to.toNat,by have:=Zeg.1 hin;omega⟩;have ht6:=Zeg.1 hin;rw [ht] at ht6 c0;have hin':inB (t:Int) 1 6=true:=by rw [<-ht];exact hin
      by_cases hbk:0<Ze4 (fsts ps) area (t:Int) ((k:Int)+1)
      ·have hTL:=hide (HT (t:Int) ((k:Int)+1) wr BQ)
       go_wp2_with fail
       refine (ZbS _ _ _ _).mono ?_;rintro e w3 ⟨rfl,rfl⟩;rw [hin']
       go_wp2_with fail
       refine hTL.out.mono ?_;rintro e w3 ⟨rfl,b3⟩;have hs3:=b3.size;have HMS:=hide (Zr6 HO (by rw [<-show (k:Int)+1=((k+1:Nat):Int) by omega, <-HD.out];exact HNJ) (by rw [<-show (k:Int)+1=((k+1:Nat):Int) by omega,ht];exact⟨hin',hbk⟩) ht);have hg3:=(b3.block _ (Zab HG)).trans HG;have hz3:=(b3.block _ (Zab HZZ)).trans HZZ;have B3:Below w.heap.size w2 w3:=hnq.trans (b3.mono BQ.size);have hbq:b<wr.heap.size:=by have:=BQ.size;omega
       replace c0:=(b3.cell hbq).trans c0;replace c1:=(b3.cell hbq).trans c1;replace d5:=(b3.cell (Zab HZZ.out)).trans d5;have dg:=Zmq hg3 (a:=k+1) (b:=t) (by omega) (by omega);have fg:=Zae hg3;have HP:=hide (Zo3 hg3 (a:=k+1) (b:=t) (by omega) n.c);have HZP:=hide ((YAU w3 (U w.heap.size ((k+1)*7+t)) z (M n.c) (by show z≠w.heap.size;omega)).trans hz3);have BP:=hide (show Below w.heap.size w2 (w3.setCell (U w.heap.size ((k+1)*7+t)) (M n.c)) from B3.setCell (p:=(U w.heap.size ((k+1)*7+t))) (YA _) _);have hm1:IntKind.i64.wrap (((k:Int)+1)*7)=(((k+1)*7:Nat):Int):=by rw [ZaN _ (by omega) (by omega)];omega
       have hm2:IntKind.i64.wrap ((((k+1)*7:Nat):Int)+(t:Int))=(((k+1)*7+t:Nat):Int):=by rw [ZaN _ (by omega) (by omega)];omega
       have hm3:(0:Int)<=(((k+1)*7+t:Nat):Int):=by omega
       have hm4:(((k+1)*7+t:Nat):Int)<49:=by omega
       clear hg3 hz3 hTL HO HG HZZ HU HXX HG2 HN HT;go_wp2
       go_region
       go_wp2;go_roundw
       case rel=>exact ⟨j+1,_,by omega,by go_num,HMS,HP,HZP,BP.out.trans ⟨rfl,rfl,rfl,YA _,fun _ _=>rfl⟩⟩
       case measure=>exact MS_
      ·have hTL:=hide (HT (t:Int) ((k:Int)+1) wr BQ)
       go_wp2_with fail
       refine (ZbS _ _ _ _).mono ?_;rintro e w3 ⟨rfl,rfl⟩;rw [hin']
       go_wp2_with fail
       refine hTL.out.mono ?_;rintro e w3 ⟨rfl,b3⟩;have hs3:=b3.size;have HMS:=hide (Zmu HO (by rw [<-show (k:Int)+1=((k+1:Nat):Int) by omega, <-HD.out];exact HNJ) (fun hc=>by have h2:=hc.2;rw [show ((k+1:Nat):Int)=(k:Int)+1 by omega,ht] at h2;omega));have HG3:=hide ((b3.block _ (Zab HG)).trans HG);have HZ3:=hide ((b3.block _ (Zab HZZ)).trans HZZ);have B3:Below w.heap.size w2 w3:=hnq.trans (b3.mono BQ.size);go_wp2;go_roundw
       case rel=>exact ⟨j+1,o,by omega,by go_num,HMS,HG3,HZ3,B3⟩
       case measure=>exact MS_
     ·have hin':inB n.to 1 6=false:=by simpa using hin
      have HMS:=hide (Zmu HO (by rw [<-show (k:Int)+1=((k+1:Nat):Int) by omega, <-HD.out];exact HNJ) (fun hc=>hin hc.1))
      go_wp2_with fail
      refine (ZbS _ _ _ _).mono ?_;rintro e w3 ⟨rfl,rfl⟩;rw [hin'];go_wp2;go_roundw
      case rel=>exact ⟨j+1,o,by omega,by go_num,HMS,HG,HZZ,hnq⟩
      case measure=>exact MS_
    ·have hjn:j=D.near.length:=by omega
     have HMN:=hide (ZqK (k:=k) (o:=o) (by rw [<-show (k:Int)+1=((k+1:Nat):Int) by omega, <-HD.out, <-hjn];exact HO));clear hjn;go_wp2;go_roundw
     case rel=>exact ⟨k+1,o,by omega,rfl,HMN,HG,BQ⟩
     case measure=>exact MS_
  ·have hk6:¬(k:Int)+1<=6:=by omega
   have KN:=hide (show ∀ u v,1<=u->u<=6->1<=v->v<=6->o u v=Znq (fsts ps) area u v by
    intro u v h1 h2 h3 h4;rw [HO.out u v h1 h2 h3 h4];unfold ZeH;rw [if_pos (by omega)])
   go_wp2;go_ret
   first
    | exact ⟨rfl,o,hg,KN,hnx⟩
    | exact ⟨o,rfl,hg,KN,hnx⟩
def heE (p:Int × Int):List Value:=[M p.1,M p.2]
theorem ZoH (p:Int × Int):(heE p).length=2:=rfl
theorem Zr0 (p:Int × Int):∀ u∈heE p,u.oneCell'=true:=by
 intro u hu;simp only [heE,YAg,List.not_mem_nil,or_false] at hu;rcases hu with rfl | rfl <;> rfl
def Zh8 (W:World)(v:Value)(ls:List (Int × Int))(B:Nat):Prop:=ZaL heE 2 W v ls B
instance:Inhabited (Int × Int):=⟨(0,0)⟩
theorem Zh8.shape {v:Value}{ls:List (Int × Int)}{B:Nat}(h:Zh8 W v ls B):∃ a cap,v=.slice a ls.length cap:=by
 obtain⟨a,cap,h,_⟩:=h;exact⟨a,cap,h⟩
theorem Zh8.cells {v:Value}{ls:List (Int × Int)}{B:Nat}(h:Zh8 W v ls B)(i:Nat)(p:Int × Int)(hp:ls[i]? = some p):
  ∃ b off cap,v=.slice (some (U b off)) ls.length cap/\b<B/\W.cell? (U b (off+i*2))=some (M p.1)/\W.cell? (U b (off+i*2+1))=some (M p.2):=by
 obtain⟨b,off,cap,hv,hb,hc⟩:=ZaL.cell h ZoH i p hp;exact⟨b,off,cap,hv,hb,hc 0 _ rfl,hc 1 _ rfl⟩
theorem Tryz.infoEnd :(Tryz.prog.info? 167).map (fun i=>(i.zero,i.size,i.bytes))=some (some (.agg #[M 0,M 0]),2,16):=by kernel_rfl
theorem ZfX {α:Type}{enc:α->List Value}{sz bytes:Nat}(hlen:∀ a,(enc a).length=sz)(hpos:0<sz)(hbb:bytes<=100){P:Program}{ops:Array Oper}{o:Oper}{a:Act}{w:World}{K:Act->World->Prop}{Q:Exit->Act->World->Prop}{E:Prop}(hgd:o.guard=none)(s x:Operand)(t:TypeId)
  (ho:o.op=.call { callee:=.builtin .append,args:=#[s,x],argTypes:=#[t,t] }) (base:Nat) (e:TypeId) (ht:P.underlying t=some (.slice e)) (zv:Value) (hzv:zv.cells.size=sz)
  (hinfo:(P.info? e).map (fun i=>(i.zero,i.size,i.bytes))=some (some zv,sz,bytes))
  (v:Value) (l:List α) (y:α) (hone:∀ u∈enc y,u.oneCell'=true) (hs:a.eval s=v) (hown:w.ownsRow base e sz v l.length (flat enc l))
  (ad:Addr) (c:Nat) (hx:a.eval x=.slice (some ad) 1 c) (hnews:∀ j u,(enc y)[j]? = some u->w.cell? (ad.add j)=some u)
  (hl:l.length+1<=1000000000) (hbase:base<=w.heap.size)
  (h:∀ v' w',w'.ownsRow base e sz v' (l++[y]).length (flat enc (l++[y]))->w.grownBy w' v.ownBlock->K (a.put o.dst v') w'):
  if Region.wanted o (yielded ops a.tmps)=true then Oper.wp P o a w K Q else E:=by
 have hw:Region.wanted o (yielded ops a.tmps)=true:=by simp [Region.wanted,hgd]
 rw [if_pos hw];obtain⟨i0,hi,hz0,hz1,hz2⟩:=info_parts hinfo;refine wp_append_own w s x t ho base e i0 zv sz bytes ht hi hz0 hz1 hz2 hzv hpos v l.length (flat enc l) hs hown ad 1 c (enc y) hx (by rw [hlen];omega) hnews hone (by unfold maxLen;omega) ?_ hbase ?_
 ·have:(l.length+1)*bytes<=1000000000*100:=Nat.mul_le_mul hl hbb;omega
 ·intro v' w' h1 h2 _;have e1:flat enc l++enc y=flat enc (l++[y]):=by rw [ZaF];simp [flat]
  rw [e1] at h1;exact h v' w' (by simpa using h1) h2
theorem Zi9 (v:Value)(h:List Int)(w:World)(hn:h.length<=1048576)(hv:ZaI w v h w.heap.size):
  Calls Tryz.prog 144 #[v] w fun e w'=>∃ u,e=.returned u/\w'.ownsRow w.heap.size 167 2 u (ZaK h).length (flat heE (ZaK h))/\T_ w w':=by
 obtain⟨a,cap,rfl⟩:=hv.shape;have HV:=hide hv;have hpl:=ZfU h;have HPL:=hide hpl;clear hv hpl
 go_enter Tryz.func144,Tryz.ntmps144
 go_wp2
 go_loopw [4,3] (fun i o wr=>∃ (k:Nat) (u:Value),2*k<=h.length/\i=M (2*(k:Int)+1)/\o=u/\wr.ownsRow w.heap.size 167 2 u ((ZaK h).take k).length (flat heE ((ZaK h).take k))/\T_ w wr) (fun i _ _=>h.length+2-(intOf i).toNat)
 case atStart=>exact ⟨0,_,by omega,by simp,rfl,YAX _ _ _ _,YAC _ _⟩
 case round=>
  obtain⟨k,u,hk,rfl,rfl,hown,hb⟩:=hrel;have hsz:=hb.size;obtain⟨ua,uc,hue⟩:=Zac hown;have htl:((ZaK h).take k).length=k:=by rw [YAS,HPL.out];omega
  by_cases hlt:2*k+1<h.length
  ·have hj0:(2*(k:Int)+1)<(h.length:Int):=by omega
   obtain⟨x,hx⟩:∃ x,h[2*k]? = some x:=⟨h[2*k],YAA (by omega)⟩;obtain⟨y,hy⟩:∃ y,h[2*k+1]? = some y:=⟨h[2*k+1],YAA hlt⟩;obtain⟨b,off,cap',hve,hbb,c0⟩:=HV.out.cell (2*k) x hx;cases hve;obtain⟨b',off',cap2,hve2,hbb2,d0⟩:=HV.out.cell (2*k+1) y hy;cases hve2;replace c0:=(hb.cell hbb).trans c0;replace d0:=(hb.cell hbb).trans d0;have HST:=hide (ZnJ h k x y hx hy);have hbr:b<wr.heap.size:=by omega
   have e1:(2*(k:Int)+1)-1=((2*k:Nat):Int):=by omega
   have e2:(2*(k:Int)+1)=((2*k+1:Nat):Int):=by omega
   have hw1:IntKind.i64.wrap (2*(k:Int)+1-1)=2*(k:Int)+1-1:=ZaN _ (by omega) (by omega);subst hue;clear hx hy;have HOW:=hide hown;have HVV:=hide HV;clear hown HV;have q1:(0:Int)<=2*(k:Int):=by omega
   have q2:2*(k:Int)<(h.length:Int):=by omega
   have q3:(0:Int)<=2*(k:Int)+1:=by omega
   have q4:(2*(k:Int)).toNat=2*k:=by omega
   have q5:(2*(k:Int)+1).toNat=2*k+1:=by omega
   have q6:2*(k:Int)+1-1=2*(k:Int):=by omega
   rw [q6] at hw1;rw [htl] at HOW |-;clear e1 e2;have HNE:some b≠(Value.slice ua k uc).ownBlock:=fun e=>by have:=(HOW.out.lt b e.symm).1;omega
   go_wp2
   go_region_held3 (fun W=>W.cell? (U b (off+2*k))=some (M x)/\W.cell? (U b (off+(2*k+1)))=some (M y)) (first | go_keep | exact ⟨hgrow.cell ((((YAC wr.heap.size wr).alloc (YA _) _).drew.cell hbr).trans c0) HNE,hgrow.cell ((((YAC wr.heap.size wr).alloc (YA _) _).drew.cell hbr).trans d0) HNE⟩) (first | (refine ZfX ZoH (by omega) (by omega) rfl _ _ 164 rfl w.heap.size 167 Tryz.underlying164 (.agg #[M 0,M 0]) rfl Tryz.infoEnd (.slice ua k uc) ((ZaK h).take k) (x,y) (Zr0 _) rfl ?_ (U wr.heap.size 0) 1 rfl ?_ ?_ ?_ ?_;(rw [htl];exact (HOW.out.alloc _).drew);(exact Zar (cs:=heE (x,y)));(omega);(simp;omega);intro v' w1 hown' hgrow))
   have hgs:=hgrow.size;simp at hgs;have BF:T_ w w1:=(hb.alloc hsz _).drew.grown hgrow (by simp;omega) (fun k hk=>(HOW.out.lt k hk).1);have HO:=hide hown';clear hown' hgrow;go_wp2;go_roundw
   case rel=>exact ⟨k+1,v',by omega,by go_num,rfl,by rw [HST.out];exact HO,BF⟩
   case measure=>exact MS_
  ·have hj0:¬(2*(k:Int)+1)<(h.length:Int):=by omega
   have KN:=hide (show (ZaK h).take k=ZaK h by rw [YAP];rw [HPL.out];omega);subst hue;have OW:=hide hown;clear hown;go_wp2;go_ret;have h1:=OW.out;rw [KN.out] at h1;exact⟨_,by rw [<-KN.out,htl];rfl,h1,hb⟩

theorem World.size_alloc_drew (w:World)(o:Obj):(w.drew.alloc o).heap.size=w.heap.size+1:=by
 have:(w.drew.alloc o).heap.size=w.drew.heap.size+1:=by simp
 exact this
def onwD (x:WayD)(to c:Int):WayD:=if x.hops=[] then ⟨to,x.cost+c,[to]⟩ else ⟨to,x.cost+c,x.hops⟩
theorem ZnD (x:WayD)(vx:Value)(bx:Nat)(to c:Int)(w:World)(hx:w.ownsRow bx 3 1 vx x.hops.length (flat intE x.hops))(hlx:x.hops.length<=1048576)(h0:0<=x.cost+c)(h1:x.cost+c<=1000000):
  Calls Tryz.prog 265 #[.agg (wayC x vx),M to,M c] w fun e w'=>∃ u,e=.returned (.agg (wayC (onwD x to c) u))/\w'.ownsRow w.heap.size 3 1 u (onwD x to c).hops.length (flat intE (onwD x to c).hops)/\T_ w w':=by
 obtain⟨D,hD⟩:∃ D,D=onwD x to c:=⟨_,rfl⟩;rw [<-hD];unfold onwD at hD;have HD:=hide hD;clear hD;obtain⟨p1,q1,rfl⟩:=Zac hx;have HOH:=hide (fun W (hb:T_ w W)=>Zfg x.hops (.slice p1 x.hops.length q1) bx W (Zad hx hb (YA _)) hlx);clear hx;have hwc:IntKind.i64.wrap (x.cost+c)=x.cost+c:=ZaN _ (by omega) (by omega);have m0:((w.alloc (.cells #[M x.to,M x.cost,.slice p1 x.hops.length q1] 193)).alloc (.cells #[M 0,M 0,.slice none 0 0] 193)).heap[w.heap.size]? = some (.cells #[M x.to,M x.cost,.slice p1 x.hops.length q1] 193):=by
  rw [YAL _ _ _ (by simp),YAE]
 have m1:((w.alloc (.cells #[M x.to,M x.cost,.slice p1 x.hops.length q1] 193)).alloc (.cells #[M 0,M 0,.slice none 0 0] 193)).heap[w.heap.size+1]? = some (.cells #[M 0,M 0,.slice none 0 0] 193):=by
  have e:=YAE (w.alloc (.cells #[M x.to,M x.cost,.slice p1 x.hops.length q1] 193)) (.cells #[M 0,M 0,.slice none 0 0] 193);rw [show (w.alloc (.cells #[M x.to,M x.cost,.slice p1 x.hops.length q1] 193)).heap.size=w.heap.size+1 by simp] at e;exact e
 have BQ:T_ w ((w.alloc (.cells #[M x.to,M x.cost,.slice p1 x.hops.length q1] 193)).alloc (.cells #[M 0,M 0,.slice none 0 0] 193)):=((YAC w.heap.size w).alloc (by simp) _).alloc (by simp) _;obtain⟨w1,hw1⟩:∃ W,W=((w.alloc (.cells #[M x.to,M x.cost,.slice p1 x.hops.length q1] 193)).alloc (.cells #[M 0,M 0,.slice none 0 0] 193)):=⟨_,rfl⟩;rw [<-hw1] at m0 m1 BQ;have s1:=Zaa m0 1;have s2:=Zaa m0 2;simp at s1 s2;unfold wayC
 go_enter Tryz.func265,Tryz.ntmps265
 go_wp2;rw [<-hw1];clear hw1;refine wp_region_noPanic ?_;have hS0:w1.drew.cell? (U w.heap.size 1)=some (M x.cost)/\w1.drew.cell? (U w.heap.size 2)=some (.slice p1 x.hops.length q1):=⟨s1,s2⟩;refine Zah (S:=fun W=>W.cell? (U w.heap.size 1)=some (M x.cost)/\W.cell? (U w.heap.size 2)=some (.slice p1 x.hops.length q1)) (by kernel_rfl) 11 rfl hS0 ?_;intro ops hops _;show wpAnyH Tryz.prog .any ops _ _ 11 #[false,false,false,false,false,false,false,false,false,false,false] _ w1.drew
 iterate 7
  refine ZhJ 11 ?_ ?_ ?_ (by rw [hops.out];kernel_rfl) ?_ ?_ (by assumption) ?_
  rotate_left 2
  ·rw [hops.out];simp only [getS,Nat.reduceSub,Nat.reduceAdd];rfl
  ·intro W hW;obtain⟨k1,k2⟩:=hW;go_simp <;> with_reducible rfl
  ·exact fun _ _ _=>id
  try simp only [putS]
 refine wpAnyH_ready (rs:=[7,9]) (by rw [hops.out];kernel_rfl) (by simp) ?_;refine AllReadyH.cons (o:=?_) ?_ (fun K hK=>?_) ?_
 rotate_left 1
 ·rw [hops.out];simp only [getS];rfl
 ·rw [if_pos (by rfl)];go_simp;refine (HOH _ (Zm6 BQ)).mono ?_;rintro e w4 ⟨u,rfl,hn2,b2⟩;obtain⟨na,nc,rfl⟩:=Zac hn2;have hK2:w4.cell? (U w.heap.size 1)=some (M x.cost)/\w4.cell? (U w.heap.size 2)=some (.slice p1 x.hops.length q1):=⟨by rw [b2.cell (by exact Zab m0)];exact s1,by rw [b2.cell (by exact Zab m0)];exact s2⟩;refine hK _ _ hK2 (fun _=>?_);clear hK K
  try simp only [putS]
  refine ZbA 8 ?_ ?_ ?_ (by rw [hops.out];kernel_rfl) ?_ ?_ (by assumption) ?_
  rotate_left 2
  ·rw [hops.out];simp only [getS];rfl
  ·intro W hW;obtain⟨k1,k2⟩:=hW;go_simp <;> with_reducible rfl
  ·exact fun _ _ _=>id
  try simp only [putS]
  refine TC 9 ?_;intro K hK;go_simp;have hK3:(w4.alloc (.cells #[M 0,M 0,.slice none 0 0] 193)).cell? (U w.heap.size 1)=some (M x.cost)/\(w4.alloc (.cells #[M 0,M 0,.slice none 0 0] 193)).cell? (U w.heap.size 2)=some (.slice p1 x.hops.length q1):=⟨by rw [World.cell?_of_block (w:=w4) (YAL _ _ _ (by have h1:=Zab m0;have h2:=b2.size;have h3:w1.heap.size<=w4.heap.size:=h2;exact YAB h1 h3))];exact hK2.1,by rw [World.cell?_of_block (w:=w4) (YAL _ _ _ (by have h1:=Zab m0;have h2:=b2.size;have h3:w1.heap.size<=w4.heap.size:=h2;exact YAB h1 h3))];exact hK2.2⟩;refine hK _ _ hK3 (fun _=>?_);clear hK K
  try simp only [putS]
  have h41:w1.heap.size<=w4.heap.size:=b2.size;have l1:=Zab m1;have z0:=(YAL w4 (.cells #[M 0,M 0,.slice none 0 0] 193) _ (by omega)).trans ((b2.block _ (Zab m0)).trans m0);have z1:=(YAL w4 (.cells #[M 0,M 0,.slice none 0 0] 193) _ (by omega)).trans ((b2.block _ (Zab m1)).trans m1);have zn:=YAE w4 (.cells #[M 0,M 0,.slice none 0 0] 193);have ho:=Zaf (b0:=w.heap.size+2) (hn2.alloc (.cells #[M 0,M 0,.slice none 0 0] 193)) (by show w.heap.size+2<=w1.heap.size;omega);have hB:T_ w (w4.alloc (.cells #[M 0,M 0,.slice none 0 0] 193)):=((Zm6 BQ).trans (b2.mono BQ.size)).alloc (by omega) _;have hnb:w.heap.size+1<w4.heap.size:=by omega
  have hvn:∀ g,(Value.slice na x.hops.length nc).ownBlock=some g->g≠w4.heap.size:=fun g hv=>by have:=(hn2.lt g hv).2;omega
  clear hn2 b2 hK2;generalize (w4.alloc (.cells #[M 0,M 0,.slice none 0 0] 193))=W5 at *;have u0:=Zaa zn 0;have u1:=Zaa zn 1;have u2:=Zaa zn 2;simp at u0 u1 u2;have fu:=Zae zn;have FN:=ZdA (⟨to,x.cost+c,x.hops⟩:WayD) (.slice na x.hops.length nc) zn;have G8:=Za7 W5 w4.heap.size (⟨to,x.cost+c,x.hops⟩:WayD) (.slice na x.hops.length nc);have ZZ0:=(G8.block _ (Zab z0) (by simp;omega)).trans z0;have ZZ1:=(G8.block _ (Zab z1) (by simp;omega)).trans z1;have OO:=ho.kept G8 (by
   cases hv:(Value.slice na x.hops.length nc).ownBlock with
   | none=>exact .inl rfl
   | some g=>exact .inr (fun e=>hvn g hv (by simpa using e)))
  have BB:=hB.grown G8 hB.size (fun k hk=>by simp at hk;omega);have hS6:(Zbb W5 w4.heap.size (⟨to,x.cost+c,x.hops⟩:WayD) (.slice na x.hops.length nc)).cell? (U w.heap.size 1)=some (M x.cost)/\(Zbb W5 w4.heap.size (⟨to,x.cost+c,x.hops⟩:WayD) (.slice na x.hops.length nc)).cell? (U w.heap.size 2)=some (.slice p1 x.hops.length q1):=⟨by have e:=Zaa ZZ0 1;simpa using e,by have e:=Zaa ZZ0 2;simpa using e⟩;obtain⟨W6,hW6⟩:∃ W,W=((W5.setCell (U w4.heap.size 0) (M to)).setCell (U w4.heap.size 1) (M (x.cost+c))).setCell (U w4.heap.size 2) (.slice na x.hops.length nc):=⟨_,rfl⟩;have e6:W6=Zbb W5 w4.heap.size (⟨to,x.cost+c,x.hops⟩:WayD) (.slice na x.hops.length nc):=hW6;rw [<-e6] at FN ZZ0 ZZ1 OO BB hS6;have HW6:=hide hW6;clear e6 hW6;have hnbB:=hnb;have HFN:=hide FN;have HZ0:=hide ZZ0;have HZ1:=hide ZZ1;have HOO:=hide OO;have HBB:=hide BB;clear FN G8 ZZ0 ZZ1 OO BB zn z0 z1 ho hB hvn;refine TC 10 ?_;intro K hK;go_simp;rw [<-HW6.out];refine hK _ _ hS6 (fun _=>?_);clear hK K
  try simp only [putS]
  refine wpAnyH_done (by rw [hops.out];kernel_rfl) ?_ _;clear hops ops u0 u1 u2 fu;refine NoPanic.normal ?_;clear HW6;obtain⟨NB,hNB⟩:∃ k,k=w4.heap.size:=⟨_,rfl⟩;rw [<-hNB] at HFN hnbB |-;clear hNB;clear m0 m1 s1 s2 hS0 BQ;have s2:=hS6.2;have f0:=Zaa HFN.out 0;have f1:=Zaa HFN.out 1;have f2:=Zaa HFN.out 2;simp [wayC] at f0 f1 f2;have ff:=Zae HFN.out;have v0:=Zaa HZ1.out 0;have v1:=Zaa HZ1.out 1;have v2:=Zaa HZ1.out 2;simp at v0 v1 v2;have fv:=Zae HZ1.out;have lnB:=Zab HFN;by_cases hx0:x.hops=[]
  ·have hDe:D=⟨to,x.cost+c,[to]⟩:=by rw [HD.out,if_pos hx0]
   subst hDe;have hl0:x.hops.length=0:=by rw [hx0];rfl
   have hlb:((x.hops.length:Int)==0)=true:=by rw [hl0];rfl
   have ez:(W6.setCell (U NB 2) (.slice (some (U W6.heap.size 0)) 1 1)).heap.size=W6.heap.size:=by simp
   have QA:(W6.setCell (U NB 2) (.slice (some (U W6.heap.size 0)) 1 1)).heap[w.heap.size+1]? = some (.cells #[M 0,M 0,.slice none 0 0] 193):=by
    rw [YAU W6 (U NB 2) _ _ (by show w.heap.size+1≠NB;omega)];exact HZ1
   have F1:=ZdA ⟨to,x.cost+c,[to]⟩ (.slice (some (U W6.heap.size 0)) 1 1) QA;have G9:=Za7 (W6.setCell (U NB 2) (.slice (some (U W6.heap.size 0)) 1 1)) (w.heap.size+1) ⟨to,x.cost+c,[to]⟩ (.slice (some (U W6.heap.size 0)) 1 1);have B8:=(HBB.out.setCell (p:=(U NB 2)) (by show w.heap.size<=NB;omega) (.slice (some (U W6.heap.size 0)) 1 1)).grown G9 (by rw [ez];omega) (fun k hk=>by simp at hk;omega);have ez2:(Zbb (W6.setCell (U NB 2) (.slice (some (U W6.heap.size 0)) 1 1)) (w.heap.size+1) ⟨to,x.cost+c,[to]⟩ (.slice (some (U W6.heap.size 0)) 1 1)).heap.size=W6.heap.size:=by simp [Zbb]
   have FF:=hide ((YAL (Zbb (W6.setCell (U NB 2) (.slice (some (U W6.heap.size 0)) 1 1)) (w.heap.size+1) ⟨to,x.cost+c,[to]⟩ (.slice (some (U W6.heap.size 0)) 1 1)) (.cells #[M to] 3) (w.heap.size+1) (by rw [ez2];omega)).trans F1);have RW:((Zbb (W6.setCell (U NB 2) (.slice (some (U W6.heap.size 0)) 1 1)) (w.heap.size+1) ⟨to,x.cost+c,[to]⟩ (.slice (some (U W6.heap.size 0)) 1 1)).alloc (.cells #[M to] 3)).ownsRow w.heap.size 3 1 (.slice (some (U ((Zbb (W6.setCell (U NB 2) (.slice (some (U W6.heap.size 0)) 1 1)) (w.heap.size+1) ⟨to,x.cost+c,[to]⟩ (.slice (some (U W6.heap.size 0)) 1 1)).heap.size) 0)) 1 1) [to].length (flat intE [to]):=YAe _ #[M to] 1 (by rw [ez2];omega) (by unfold maxLen;omega) (by simp);rw [ez2] at RW;have O9:=hide RW;have B9:=hide (B8.alloc (by rw [ez2];omega) (.cells #[M to] 3));have HFIN:=hide (fun W (hW:W=(Zbb (W6.setCell (U NB 2) (.slice (some (U W6.heap.size 0)) 1 1)) (w.heap.size+1) ⟨to,x.cost+c,[to]⟩ (.slice (some (U W6.heap.size 0)) 1 1)).alloc (.cells #[M to] 3))=>show W.heap[w.heap.size+1]? = some (.cells (wayC ⟨to,x.cost+c,[to]⟩ (.slice (some (U W6.heap.size 0)) 1 1)) 193)/\W.ownsRow w.heap.size 3 1 (.slice (some (U W6.heap.size 0)) 1 1) [to].length (flat intE [to])/\T_ w W by subst hW;exact⟨FF,O9,B9⟩);have QB:=(YAL (W6.setCell (U NB 2) (.slice (some (U W6.heap.size 0)) 1 1)) (.cells #[M to] 3) (w.heap.size+1) (by rw [ez];omega)).trans QA;have fb0:=Zae QB 0;have fb1:=Zae QB 1;have fb2:=Zae QB 2;have l6:w.heap.size+1<W6.heap.size:=by omega
   clear G9 RW QA QB F1 B8 ez ez2 FF O9 B9 hl0 hx0 HZ0 HZ1 HFN HOO HBB hS6 HOH HD
   go_wp2_with fail
   (try simp only [Exit.inBlock,Exit.then])
   obtain⟨W7,hW7⟩:∃ W,W=(Zbb (W6.setCell (U NB 2) (.slice (some (U W6.heap.size 0)) 1 1)) (w.heap.size+1) ⟨to,x.cost+c,[to]⟩ (.slice (some (U W6.heap.size 0)) 1 1)).alloc (.cells #[M to] 3):=⟨_,rfl⟩;have R7:=HFIN.out W7 hW7;rw [<-hW7];refine bodyPost_ret (results_cell_row rfl _ _ (w.heap.size+1) 193 (wayC ⟨to,x.cost+c,[to]⟩ (.slice (some (U W6.heap.size 0)) 1 1)) (0,0) _ rfl R7.1 Tryz.underlying193 rfl (by kernel_rfl)) rfl ?_;exact⟨_,rfl,R7.2.1,R7.2.2⟩
  ·have hDe:D=⟨to,x.cost+c,x.hops⟩:=by rw [HD.out,if_neg hx0]
   subst hDe;have hl0:x.hops.length≠0:=fun e=>hx0 (YAt e);have hlb:((x.hops.length:Int)==0)=false:=by
    have h1:¬(x.hops.length:Int)=0:=by omega
    simpa using h1
   have FF:=hide (ZdA ⟨to,x.cost+c,x.hops⟩ (.slice na x.hops.length nc) HZ1);have G9:=Za7 W6 (w.heap.size+1) ⟨to,x.cost+c,x.hops⟩ (.slice na x.hops.length nc);have O9:=hide (Zaf (b0:=w.heap.size) (HOO.out.kept G9 (by
    cases hv:(Value.slice na x.hops.length nc).ownBlock with
    | none=>exact .inl rfl
    | some g=>exact .inr (fun e=>by have:=(HOO.out.lt g hv).1;simp at e;omega))) (by omega))
   have B9:=hide (HBB.out.grown G9 HBB.out.size (fun k hk=>by simp at hk;omega));have hl1:¬(x.hops.length:Int)=0:=by omega
   clear G9 hl0 hx0 HZ0 HZ1 HFN HOO HBB hS6 HOH HD
   go_wp2_with fail
   (try simp only [Exit.inBlock,Exit.then])
   refine bodyPost_ret (results_cell_row rfl _ _ (w.heap.size+1) 193 (wayC ⟨to,x.cost+c,x.hops⟩ (.slice na x.hops.length nc)) (0,0) _ rfl FF Tryz.underlying193 rfl (by kernel_rfl)) rfl ?_;exact⟨_,rfl,O9,B9⟩
 refine AllReadyH.cons (o:=?_) ?_ (fun K hK=>?_) ?_
 rotate_left 1
 ·rw [hops.out];simp only [getS];rfl
 ·rw [if_pos (by rfl)];go_simp;have hK2:(w1.drew.alloc (.cells #[M 0,M 0,.slice none 0 0] 193)).cell? (U w.heap.size 1)=some (M x.cost)/\(w1.drew.alloc (.cells #[M 0,M 0,.slice none 0 0] 193)).cell? (U w.heap.size 2)=some (.slice p1 x.hops.length q1):=⟨by rw [World.cell?_of_block (w:=w1.drew) (YAL _ _ _ (by exact Zab m0))];exact s1,by rw [World.cell?_of_block (w:=w1.drew) (YAL _ _ _ (by exact Zab m0))];exact s2⟩;refine hK _ _ hK2 (fun _=>?_);clear hK K
  try simp only [putS]
  refine TC 7 ?_;intro K hK;go_simp;refine (HOH (w1.drew.alloc (.cells #[M 0,M 0,.slice none 0 0] 193)) ((Zm6 BQ).alloc (by exact BQ.size) _)).mono ?_;rintro e w4 ⟨u,rfl,hn2,b2⟩;obtain⟨na,nc,rfl⟩:=Zac hn2;have l0:w.heap.size<(w1.drew.alloc (.cells #[M 0,M 0,.slice none 0 0] 193)).heap.size:=by
   have h1:=Zab m0;have h2:(w1.drew.alloc (.cells #[M 0,M 0,.slice none 0 0] 193)).heap.size=w1.heap.size+1:=by
    rw [World.size_alloc_drew]
   omega
  have hK3:w4.cell? (U w.heap.size 1)=some (M x.cost)/\w4.cell? (U w.heap.size 2)=some (.slice p1 x.hops.length q1):=⟨by rw [b2.cell l0];exact hK2.1,by rw [b2.cell l0];exact hK2.2⟩;refine hK _ _ hK3 (fun _=>?_);clear hK K
  try simp only [putS]
  refine ZbA 8 ?_ ?_ ?_ (by rw [hops.out];kernel_rfl) ?_ ?_ (by assumption) ?_
  rotate_left 2
  ·rw [hops.out];simp only [getS];rfl
  ·intro W hW;obtain⟨k1,k2⟩:=hW;go_simp <;> with_reducible rfl
  ·exact fun _ _ _=>id
  try simp only [putS]
  have hsA:(w1.drew.alloc (.cells #[M 0,M 0,.slice none 0 0] 193)).heap.size=w1.heap.size+1:=World.size_alloc_drew w1 _;have l1:=Zab m1;have z0:=(b2.block _ l0).trans ((YAL w1.drew (.cells #[M 0,M 0,.slice none 0 0] 193) _ (by exact Zab m0)).trans m0);have z1:=(b2.block _ (by omega)).trans ((YAL w1.drew (.cells #[M 0,M 0,.slice none 0 0] 193) _ (by exact Zab m1)).trans m1);have zn:=(b2.block _ (by rw [hsA];exact Nat.lt_succ_self w1.heap.size)).trans (YAE w1.drew (.cells #[M 0,M 0,.slice none 0 0] 193));have ho:=Zaf (b0:=w.heap.size+2) hn2 (by omega);have hB:T_ w w4:=((Zm6 BQ).alloc (by exact BQ.size) _).trans (b2.mono (by omega));have hnb:w.heap.size+1<w1.heap.size:=l1;have hvn:∀ g,(Value.slice na x.hops.length nc).ownBlock=some g->g≠w1.heap.size:=fun g hv=>by have:=(hn2.lt g hv).1;omega
  have zn:w4.heap[w1.heap.size]? = some (.cells #[M 0,M 0,.slice none 0 0] 193):=zn;clear hn2 b2 hK2 hK3;have u0:=Zaa zn 0;have u1:=Zaa zn 1;have u2:=Zaa zn 2;simp at u0 u1 u2;have fu:=Zae zn;have FN:=ZdA (⟨to,x.cost+c,x.hops⟩:WayD) (.slice na x.hops.length nc) zn;have G8:=Za7 w4 w1.heap.size (⟨to,x.cost+c,x.hops⟩:WayD) (.slice na x.hops.length nc);have ZZ0:=(G8.block _ (Zab z0) (by simp;omega)).trans z0;have ZZ1:=(G8.block _ (Zab z1) (by simp;omega)).trans z1;have OO:=ho.kept G8 (by
   cases hv:(Value.slice na x.hops.length nc).ownBlock with
   | none=>exact .inl rfl
   | some g=>exact .inr (fun e=>hvn g hv (by simpa using e)))
  have BB:=hB.grown G8 hB.size (fun k hk=>by simp at hk;omega);have hS6:(Zbb w4 w1.heap.size (⟨to,x.cost+c,x.hops⟩:WayD) (.slice na x.hops.length nc)).cell? (U w.heap.size 1)=some (M x.cost)/\(Zbb w4 w1.heap.size (⟨to,x.cost+c,x.hops⟩:WayD) (.slice na x.hops.length nc)).cell? (U w.heap.size 2)=some (.slice p1 x.hops.length q1):=⟨by have e:=Zaa ZZ0 1;simpa using e,by have e:=Zaa ZZ0 2;simpa using e⟩;obtain⟨W6,hW6⟩:∃ W,W=((w4.setCell (U w1.heap.size 0) (M to)).setCell (U w1.heap.size 1) (M (x.cost+c))).setCell (U w1.heap.size 2) (.slice na x.hops.length nc):=⟨_,rfl⟩;have e6:W6=Zbb w4 w1.heap.size (⟨to,x.cost+c,x.hops⟩:WayD) (.slice na x.hops.length nc):=hW6;rw [<-e6] at FN ZZ0 ZZ1 OO BB hS6;have HW6:=hide hW6;clear e6 hW6;have hnbB:=hnb;have HFN:=hide FN;have HZ0:=hide ZZ0;have HZ1:=hide ZZ1;have HOO:=hide OO;have HBB:=hide BB;clear FN G8 ZZ0 ZZ1 OO BB zn z0 z1 ho hB hvn;refine TC 10 ?_;intro K hK;go_simp;rw [<-HW6.out];refine hK _ _ hS6 (fun _=>?_);clear hK K
  try simp only [putS]
  refine wpAnyH_done (by rw [hops.out];kernel_rfl) ?_ _;clear hops ops u0 u1 u2 fu;refine NoPanic.normal ?_;clear HW6;obtain⟨NB,hNB⟩:∃ k,k=w1.heap.size:=⟨_,rfl⟩;rw [<-hNB] at HFN hnbB |-;clear hNB;clear m0 m1 s1 s2 hS0 BQ;have s2:=hS6.2;have f0:=Zaa HFN.out 0;have f1:=Zaa HFN.out 1;have f2:=Zaa HFN.out 2;simp [wayC] at f0 f1 f2;have ff:=Zae HFN.out;have v0:=Zaa HZ1.out 0;have v1:=Zaa HZ1.out 1;have v2:=Zaa HZ1.out 2;simp at v0 v1 v2;have fv:=Zae HZ1.out;have lnB:=Zab HFN;by_cases hx0:x.hops=[]
  ·have hDe:D=⟨to,x.cost+c,[to]⟩:=by rw [HD.out,if_pos hx0]
   subst hDe;have hl0:x.hops.length=0:=by rw [hx0];rfl
   have hlb:((x.hops.length:Int)==0)=true:=by rw [hl0];rfl
   have ez:(W6.setCell (U NB 2) (.slice (some (U W6.heap.size 0)) 1 1)).heap.size=W6.heap.size:=by simp
   have QA:(W6.setCell (U NB 2) (.slice (some (U W6.heap.size 0)) 1 1)).heap[w.heap.size+1]? = some (.cells #[M 0,M 0,.slice none 0 0] 193):=by
    rw [YAU W6 (U NB 2) _ _ (by show w.heap.size+1≠NB;omega)];exact HZ1
   have F1:=ZdA ⟨to,x.cost+c,[to]⟩ (.slice (some (U W6.heap.size 0)) 1 1) QA;have G9:=Za7 (W6.setCell (U NB 2) (.slice (some (U W6.heap.size 0)) 1 1)) (w.heap.size+1) ⟨to,x.cost+c,[to]⟩ (.slice (some (U W6.heap.size 0)) 1 1);have B8:=(HBB.out.setCell (p:=(U NB 2)) (by show w.heap.size<=NB;omega) (.slice (some (U W6.heap.size 0)) 1 1)).grown G9 (by rw [ez];omega) (fun k hk=>by simp at hk;omega);have ez2:(Zbb (W6.setCell (U NB 2) (.slice (some (U W6.heap.size 0)) 1 1)) (w.heap.size+1) ⟨to,x.cost+c,[to]⟩ (.slice (some (U W6.heap.size 0)) 1 1)).heap.size=W6.heap.size:=by simp [Zbb]
   have FF:=hide ((YAL (Zbb (W6.setCell (U NB 2) (.slice (some (U W6.heap.size 0)) 1 1)) (w.heap.size+1) ⟨to,x.cost+c,[to]⟩ (.slice (some (U W6.heap.size 0)) 1 1)) (.cells #[M to] 3) (w.heap.size+1) (by rw [ez2];omega)).trans F1);have RW:((Zbb (W6.setCell (U NB 2) (.slice (some (U W6.heap.size 0)) 1 1)) (w.heap.size+1) ⟨to,x.cost+c,[to]⟩ (.slice (some (U W6.heap.size 0)) 1 1)).alloc (.cells #[M to] 3)).ownsRow w.heap.size 3 1 (.slice (some (U ((Zbb (W6.setCell (U NB 2) (.slice (some (U W6.heap.size 0)) 1 1)) (w.heap.size+1) ⟨to,x.cost+c,[to]⟩ (.slice (some (U W6.heap.size 0)) 1 1)).heap.size) 0)) 1 1) [to].length (flat intE [to]):=YAe _ #[M to] 1 (by rw [ez2];omega) (by unfold maxLen;omega) (by simp);rw [ez2] at RW;have O9:=hide RW;have B9:=hide (B8.alloc (by rw [ez2];omega) (.cells #[M to] 3));have HFIN:=hide (fun W (hW:W=(Zbb (W6.setCell (U NB 2) (.slice (some (U W6.heap.size 0)) 1 1)) (w.heap.size+1) ⟨to,x.cost+c,[to]⟩ (.slice (some (U W6.heap.size 0)) 1 1)).alloc (.cells #[M to] 3))=>show W.heap[w.heap.size+1]? = some (.cells (wayC ⟨to,x.cost+c,[to]⟩ (.slice (some (U W6.heap.size 0)) 1 1)) 193)/\W.ownsRow w.heap.size 3 1 (.slice (some (U W6.heap.size 0)) 1 1) [to].length (flat intE [to])/\T_ w W by subst hW;exact⟨FF,O9,B9⟩);have QB:=(YAL (W6.setCell (U NB 2) (.slice (some (U W6.heap.size 0)) 1 1)) (.cells #[M to] 3) (w.heap.size+1) (by rw [ez];omega)).trans QA;have fb0:=Zae QB 0;have fb1:=Zae QB 1;have fb2:=Zae QB 2;have l6:w.heap.size+1<W6.heap.size:=by omega
   clear G9 RW QA QB F1 B8 ez ez2 FF O9 B9 hl0 hx0 HZ0 HZ1 HFN HOO HBB hS6 HOH HD
   go_wp2_with fail
   (try simp only [Exit.inBlock,Exit.then])
   obtain⟨W7,hW7⟩:∃ W,W=(Zbb (W6.setCell (U NB 2) (.slice (some (U W6.heap.size 0)) 1 1)) (w.heap.size+1) ⟨to,x.cost+c,[to]⟩ (.slice (some (U W6.heap.size 0)) 1 1)).alloc (.cells #[M to] 3):=⟨_,rfl⟩;have R7:=HFIN.out W7 hW7;rw [<-hW7];refine bodyPost_ret (results_cell_row rfl _ _ (w.heap.size+1) 193 (wayC ⟨to,x.cost+c,[to]⟩ (.slice (some (U W6.heap.size 0)) 1 1)) (0,0) _ rfl R7.1 Tryz.underlying193 rfl (by kernel_rfl)) rfl ?_;exact⟨_,rfl,R7.2.1,R7.2.2⟩
  ·have hDe:D=⟨to,x.cost+c,x.hops⟩:=by rw [HD.out,if_neg hx0]
   subst hDe;have hl0:x.hops.length≠0:=fun e=>hx0 (YAt e);have hlb:((x.hops.length:Int)==0)=false:=by
    have h1:¬(x.hops.length:Int)=0:=by omega
    simpa using h1
   have FF:=hide (ZdA ⟨to,x.cost+c,x.hops⟩ (.slice na x.hops.length nc) HZ1);have G9:=Za7 W6 (w.heap.size+1) ⟨to,x.cost+c,x.hops⟩ (.slice na x.hops.length nc);have O9:=hide (Zaf (b0:=w.heap.size) (HOO.out.kept G9 (by
    cases hv:(Value.slice na x.hops.length nc).ownBlock with
    | none=>exact .inl rfl
    | some g=>exact .inr (fun e=>by have:=(HOO.out.lt g hv).1;simp at e;omega))) (by omega))
   have B9:=hide (HBB.out.grown G9 HBB.out.size (fun k hk=>by simp at hk;omega));have hl1:¬(x.hops.length:Int)=0:=by omega
   clear G9 hl0 hx0 HZ0 HZ1 HFN HOO HBB hS6 HOH HD
   go_wp2_with fail
   (try simp only [Exit.inBlock,Exit.then])
   refine bodyPost_ret (results_cell_row rfl _ _ (w.heap.size+1) 193 (wayC ⟨to,x.cost+c,x.hops⟩ (.slice na x.hops.length nc)) (0,0) _ rfl FF Tryz.underlying193 rfl (by kernel_rfl)) rfl ?_;exact⟨_,rfl,O9,B9⟩
 exact AllReadyH.nil
theorem Zkn {f r u:Int}{l:Lk}:u∈hits f r l↔ZbJ f u r l=true:=by
 simp only [hits,hit1,hit2,ZbJ,YAF];by_cases h1:l.a=f/\l.r=r <;> by_cases h2:l.b=f/\l.r=r <;> simp [h1,h2] <;> grind
theorem Zmj {f r u:Int}:u∈gath ls f r ls.length↔∃ l∈ls,ZbJ f u r l=true:=by
 unfold gath;rw [YAf,YAs];exact⟨fun ⟨l,hl,hu⟩=>⟨l,hl,Zkn.1 hu⟩,fun ⟨l,hl,hu⟩=>⟨l,hl,Zkn.2 hu⟩⟩
theorem Zj5 (h:∀ l∈ls,Za0 n l=true)(f t r:Int):0<ZcR ls f t r↔∃ l∈ls,ZbJ f t r l=true:=by
 constructor
 ·intro hc;exact Zot (by omega)
 ·rintro ⟨l,hl,hh⟩;unfold ZcR;cases hf:ls.find? (ZbJ f t r) with
  | none=>exact absurd hh (by simpa using List.find?_eq_none.1 hf l hl)
  | some m=>
   have:=h m (List.mem_of_find?_eq_some hf);unfold Za0 inB at this;simp only [YAM,YAT] at this;simp;omega
theorem Zpc (h:∀ l∈ls,Za0 n l=true)(f r:Int):decide (0<(ZgA ls f r).length)=decide (0<(Zeo ls f r).length):=by
 rw [ZmC,decide_eq_decide,List.length_pos_iff_exists_mem,List.length_pos_iff_exists_mem];constructor
 ·rintro ⟨u,hu⟩;obtain⟨l,hl,hh⟩:=Zmj.1 hu;have h1:=h l hl;unfold Za0 inB at h1;simp only [YAM,YAT] at h1;have h2:=hh;unfold ZbJ at h2;simp only [YAM,YAx,beq_iff_eq] at h2;refine⟨u,?_⟩;unfold Zeo;refine YAY.2 ⟨?_,YAc ((Zj5 h f u r).2 ⟨l,hl,hh⟩)⟩;have:1<=u/\u<=6:=by omega
  have:u=1\/u=2\/u=3\/u=4\/u=5\/u=6:=by omega
  simpa using this
 ·rintro ⟨u,hu⟩;unfold Zeo at hu;obtain⟨l,hl,hh⟩:=(Zj5 h f u r).1 (by simpa using (YAY.1 hu).2);exact⟨u,Zmj.2 ⟨l,hl,hh⟩⟩
theorem ZdF (h:∀ l∈ls,Za0 n l=true)(f:Int):ZbW ls f=Zay ls f:=by
 unfold ZbW Zay;congr 1;funext r;exact Zpc h f r
theorem ZjY (h:∀ l∈ls,Za0 n l=true)(f:Int):ZiV ls f=ZeV ls f:=by
 unfold ZiV ZeV;rw [ZdF h]
theorem Zis {w:World}{base size n:Nat}{e:TypeId}{v:Value}{xs:List Value}(h:w.ownsRow base e size v n xs):some w.heap.size≠v.ownBlock:=fun e=>by have:=(h.lt _ e.symm).2;omega
theorem ZlC (n:Int)(v1 v2:Value)(base:Nat)(ls:List Lk)(ts:List Th)(c:Int)(w:World)(h1:w.ownsRow base 173 4 v1 ls.length (flat lkE ls))(h2:w.ownsRow base 119 4 v2 ts.length (flat thE ts))(hn:ls.length<=1048576)(hm:ts.length<=1048576)(hc:0<=c)(hc2:c<=10000000):
  Calls Tryz.prog 40 #[.agg #[M n,v1,v2],M c] w fun e w'=>e=.returned (M (c+4*(ls.length:Int)+4*(ts.length:Int)))/\w'.ownsRow base 173 4 v1 ls.length (flat lkE (Zhg c ls.length))/\w'.ownsRow base 119 4 v2 ts.length (flat thE (Zhh (c+4*(ls.length:Int)) ts.length))/\FrameS (fun k=>v1.ownBlock=some k\/v2.ownBlock=some k) w w':=by
 obtain⟨a1,c1,rfl⟩:=Zac h1;obtain⟨a2,c2,rfl⟩:=Zac h2;have BA:=(YAC w.heap.size w).alloc (YA _) (.cells #[M n,.slice a1 ls.length c1,.slice a2 ts.length c2] 27);have g0:=YAE w (.cells #[M n,.slice a1 ls.length c1,.slice a2 ts.length c2] 27);have HM1:=hide (Zjg _ base ls.length ls c _ rfl (h1.alloc (.cells #[M n,.slice a1 ls.length c1,.slice a2 ts.length c2] 27)) hn hc (by omega));have N1:=Zis h1;have N2:=Zis h2;have H1:=hide h1;have H2:=hide (h2.alloc (.cells #[M n,.slice a1 ls.length c1,.slice a2 ts.length c2] 27));have H2':=hide h2;have G0:=hide g0;clear h1 h2 g0
 go_enter Tryz.func40,Tryz.ntmps40
 go_wp2_with fail
 obtain⟨w0,hw0⟩:∃ W,W=w.alloc (.cells #[M n,.slice a1 ls.length c1,.slice a2 ts.length c2] 27):=⟨_,rfl⟩;rw [<-hw0] at BA G0 HM1 H2 |-;clear hw0;refine HM1.out.mono ?_;rintro e w1 ⟨rfl,o1,gr1⟩;have g1:=(gr1.block _ (Zab G0) N1).trans G0;have hx:∀ k,(Value.slice a1 ls.length c1).ownBlock=some k->(Value.slice a2 ts.length c2).ownBlock≠some k:=fun k hk e=>by
  rcases H1.out.2 with ⟨h,_⟩ | ⟨g',cap',cur',hv',_,hh',_⟩
  ·rw [h] at hk;simp [Value.ownBlock] at hk
  ·rw [hv'] at hk;simp [Value.ownBlock] at hk;subst hk;exact Zaq H2' hh' (by decide) e.symm
 have o2:=Zal (W':=w1) H2 (fun k hk=>gr1.block k (H2.out.lt k hk).2 (fun e=>hx k e.symm hk));have F1:FrameS (fun k=>(Value.slice a1 ls.length c1).ownBlock=some k\/(Value.slice a2 ts.length c2).ownBlock=some k) w w1:=⟨gr1.os.trans BA.os,gr1.tape.trans BA.tape,gr1.output.trans BA.output,YAG BA.size gr1.size,fun k hk hs=>(gr1.block k (YAB hk BA.size) (fun e=>hs (.inl e.symm))).trans (BA.block k hk)⟩;have s2:=Zaa g1 2;simp at s2;have HM2:=hide (ZhY _ base ts.length ts (c+4*(ls.length:Int)) w1 rfl o2 hm (by omega) (by omega));have O1:=hide o1;have HX:=hide hx;clear g1 o1 o2 hx HM1 gr1
 go_wp2_with fail
 refine HM2.out.mono ?_;rintro e w2 ⟨rfl,o2,gr2⟩;have F2:=F1.trans (FrameS.grown gr2 (fun k hk=>.inr hk));have o1:=Zal (W':=w2) O1 (fun k hk=>gr2.block k (O1.out.lt k hk).2 (fun e=>HX k hk e.symm));have O2:=hide o2;have O3:=hide o1;clear o1 o2 gr2 s2 HM2;go_wp2;go_ret;exact⟨rfl,O3,O2,F2⟩
def ZrM (v1 v2 v3 v4:Value)(ps:List RP)(k:Nat):Prop:=(v1.ownBlock=some k\/v2.ownBlock=some k)\/v3.ownBlock=some k\/BlkOf v4 ps k
theorem SelfOwn.blk {lo hi m1 m2:Nat}{v1 v2 v3 v4:Value}{x:SelfD}{ps:List RP}(h:SelfOwn W lo hi v1 v2 v3 v4 x ps m1 m2)(k:Nat)(hk:ZrM v1 v2 v3 v4 ps k):lo<=k/\k<hi/\k<W.heap.size:=by
 have h1:=h.o1;have h2:=h.o2;have h3:=h.o3;rcases hk with (e | e) | e | e
 ·have a:=h.links.lt k e;have b:=h.ltop k e;omega
 ·have a:=h.things.lt k e;have b:=h.ttop k e;omega
 ·have a:=h.heard.row.lt k e;have b:=h.heard.top k e;omega
 ·have a:=h.store.blk k e;omega

def Zh5 (xs:List RtD):Nat:=(xs.map (fun x=>1+x.hops.length)).sum
theorem ZpZ (ps:List QP):totQ ps=Zh5 (ZaO ps):=by simp [totQ,Zh5,ZaO,List.map_map,Function.comp_def]
theorem Zn8 (x:RtD)(xs:List RtD):Zh5 (x::xs)=1+x.hops.length+Zh5 xs:=by simp [Zh5]
theorem Zec (v1 v2:Value)(ps qs:List QP)(l1 h1 l2 h2:Nat)(w:World)(k1:RtsOwn w l1 h1 v1 ps)(k2:RtsOwn w l2 h2 v2 qs)(he:ZaO ps=ZaO qs)(hn:totQ ps<=1048576)(g1:h1<=w.heap.size)(g2:h2<=w.heap.size):
  Calls Tryz.prog 45 #[v1,v2] w fun e w'=>e=.returned (.bool true)/\T_ w w':=by
 have h:=Zj7 v1 v2 ps qs w (k1.at.more g1) (k2.at.more g2) (YAG (ZjA ps) hn) (fun _ hp=>YAG (ZjB hp) hn);rw [YAc he] at h;exact h
theorem ZqM (ps:List QP):¬mkQE 1 ps<0:=by have:=Zjh 1 ps;omega
theorem Ze2 (v:Value)(ps:List QP)(c:Int)(w:World)(h:Zd8 w v (mkQL c ps) w.heap.size)(hn:totQ ps<=1048576)(hc:0<=c)(hc2:c<=10000000):
  Calls Tryz.prog 49 #[v,M c] w fun e w'=>e=.returned (M (mkQE c ps))/\w=w':=by
 obtain⟨a,cap,rfl⟩:=h.shape;rw [Zc3] at *;have H1:=hide h;have hnl:=ZjA ps;clear h
 go_enter Tryz.func49,Tryz.ntmps49
 go_wp2
 go_loop [5,1] (fun i r=>∃ k:Nat,k<=ps.length/\i=M k/\r=M (mkQE c (ps.take k))) (fun i _=>ps.length-(intOf i).toNat)
 case atStart=>exact ⟨0,by omega,rfl,rfl⟩
 case round=>
  obtain⟨k,hk,rfl,rfl⟩:=hrel;by_cases hlt:k<ps.length
  ·obtain ⟨p,hp⟩:∃ p,ps[k]? = some p:=⟨ps[k],YAA hlt⟩;have hki:(0:Int)<=(k:Int):=by omega
   have hkj:(k:Int)<(ps.length:Int):=by omega
   have ht1:=ZhO ps k;have ht2:=Zjh c (ps.take k);have hpl:=ZjB (YAH hp);have hnext:=Zko c hp;have hat:=Zr7 c hp;obtain⟨z,hz⟩:∃ z,z=mkQE c (ps.take k):=⟨_,rfl⟩;rw [<-hz] at ht2 hnext hat |-;have hz0:0<=z:=by omega
   have hz2:z<=100000000:=by omega
   obtain⟨b,off,cap',hve,hbb,s0,s1,s2,s3,s4,s5,hnr⟩:=H1.out.cells k (mkQ z p) hat;rw [Zc3] at hve;cases hve;unfold mkQ at s0 s1 s2 s3 s4 s5 hnr;simp only [] at s0 s1 s2 s3 s4 s5 hnr;obtain⟨na,nc,hpn⟩:=hnr.shape;rw [Zbr] at hpn;rw [hpn] at s5 hnr;have HH:=hide (ZoI _ p.1.hops.length (z+1+1+1+1+1) w hnr (by omega) (by omega) (by omega));have HNEXT:=hide hnext;have HZ:=hide hz;have hm0:¬z+1+1+1+1+1+(p.1.hops.length:Int)<0:=by omega
   clear hp hnext hat hz hnr hpn ht1 ht2
   go_wp2_with fail
   refine HH.out.mono ?_;rintro e w1 ⟨rfl,rfl⟩;go_wp2
   go_round
   case rel=>exact ⟨k+1,by omega,by go_num,by rw [HNEXT.out];rfl⟩
   case measure=>exact MS_
  ·have hkn:k=ps.length:=by omega
   have KN:=hide hkn;clear hkn;go_wp2;go_ret;exact⟨Zc4 (by rw [KN.out,YAf]),rfl⟩
theorem Zrv (f:RP->Bool)(ps:List RP):tot (ps.filter f)<=tot ps:=by
 induction ps with
 | nil=>simp [tot]
 | cons p ps ih=>
  rw [List.filter_cons]
  split
  ·rw [ZcO,ZcO];omega
  ·rw [ZcO];omega
theorem Zss (f g:RP->Bool)(hfg:∀ p,f p=true->g p=false)(ps:List RP):tot (ps.filter f)+tot (ps.filter g)<=tot ps:=by
 induction ps with
 | nil=>simp [tot]
 | cons p ps ih=>
  have:=hfg p;by_cases hf:f p=true
  ·have hg:=this hf;simp only [List.filter_cons,hf,hg,if_true,Bool.false_eq_true,if_false,ZcO];omega
  ·have hf':f p=false:=by simpa using hf
   by_cases hg:g p=true
   ·simp only [List.filter_cons,hf',hg,if_true,Bool.false_eq_true,if_false,ZcO];omega
   ·have hg':g p=false:=by simpa using hg
    simp only [List.filter_cons,hf',hg',Bool.false_eq_true,if_false,ZcO];omega
theorem ZdV {x y:RecD}(h:Zam x y=true):Zam y x=false:=by
 unfold Zam at *;simp only [YAx,YAM,YAT,beq_iff_eq] at h;simp only [Bool.or_eq_false_iff,Bool.and_eq_false_iff,decide_eq_false_iff_not,beq_eq_false_iff_ne];omega
theorem ZjD (ps:List RP)(r:RP):tot (putL ps r)<=tot ps+(1+r.1.near.length):=by
 unfold putL;rw [ZdR,ZdR];have h:=Zss (fun p=>Zam p.1 r.1) (fun p=>Zam r.1 p.1) (fun p hp=>ZdV hp) ps;have e:tot [r]=1+r.1.near.length:=by simp [tot]
 omega
def Zei (xs:List RecD)(area:Int)(u v:Nat):Int:=if (1<=u/\u<=6)/\(1<=v/\v<=6) then Znq xs area u v else 0
theorem Zhd {ns:List Nr}{bk:Int->Int}{v:Nat}(h:∀ n∈ns,1<=n.c/\n.c<=1000):∀ k,0<=Zej ns bk v k/\Zej ns bk v k<=1000
 | 0=>by simp [Zej]
 | k+1=>by
  have ih:=Zhd (bk:=bk) (v:=v) h k;cases e:ns[k]? with
  | none=>
   have:Zej ns bk v (k+1)=Zej ns bk v k:=by
    show (match ns[k]? with
     | some n=>if n.to=(v:Int)/\inB n.to 1 6=true/\0<bk n.to then n.c else Zej ns bk v k
     | none=>Zej ns bk v k)=_
    rw [e]
   rw [this];exact ih
  | some n=>
   rw [ZeG bk v e];have:=h n (YAH e)
   split
   ·omega
   ·exact ih
theorem ZdD {α:Type}{ok:α->Bool}{ls:List α}(h:ZbV ok ls=true){a:α}(ha:a∈ls):ok a=true:=by
 obtain⟨k,hk,e⟩:=List.mem_iff_getElem.1 ha;unfold ZbV at h;rw [List.all_eq_true] at h;have:=h k (by simpa using hk);unfold okAt at this;rw [YAA hk,e] at this;exact this
theorem Zhw {x:RecD}(h:Za2 x=true):x.near=[]\/(x.kind=1/\Zbs x.owner x.near=true):=by
 unfold Za2 at h;simp only [YAM] at h;have h2:=h.2
 split at h2
 ·rename_i e
  simp only [YAM] at h2;exact .inr ⟨e,h2.1.1.2⟩
 ·split at h2
  ·simp only [YAM,beq_iff_eq] at h2;exact .inl (YAt h2.1.1.2)
  ·split at h2
   ·simp only [YAM,beq_iff_eq] at h2;exact .inl (YAt h2.1.2)
   ·cases h2
theorem Zhv {x:RecD}(h:Za2 x=true):∀ n∈x.near,1<=n.c/\n.c<=1000:=by
 intro n hn;rcases Zhw h with e | ⟨_,e⟩
 ·rw [e] at hn;cases hn
 ·unfold Zbs at e;simp only [YAM] at e;have:=ZdD e.1 hn;unfold ZcB at this;simp only [YAM] at this;exact Zeg.1 this.2
theorem Zj9 {r:RecD}:ZfE xs r∈xs\/ZfE xs r=Zbf:=by
 rcases Zea xs r with hz | ⟨j,y,hz,hy,_⟩
 ·exact .inr (ZfF hz).1
 ·rw [(Zi7 hz hy).1];exact .inl (YAH hy)
theorem Zhm {node:Int}(h:ZaA xs=true):∀ n∈(ZcC xs area node).near,1<=n.c/\n.c<=1000:=by
 intro n hn;unfold ZcC at hn;rcases Zj9 (xs:=xs) (r:=ZgB area node) with hm | he
 ·unfold ZaA at h;simp only [YAM] at h;have hr:=ZdD h.1.2 hm;exact Zhv hr n hn
 ·rw [he] at hn;cases hn
theorem Zff (h:ZaA xs=true):Links (Zei xs area) 1000:=by
 refine⟨fun u v=>?_,fun u v=>?_,fun u v hl=>?_⟩
 ·unfold Zei;split
  ·exact (Zhd (Zhm h) _).1
  ·omega
 ·unfold Zei;split
  ·exact (Zhd (Zhm h) _).2
  ·omega
 ·unfold Zei at hl
  split at hl
  ·rename_i e;exact e
  ·omega
def Zos (c:Nat->Int)(i:Nat):Value:=M (if i=0 then 0 else c i)
def doneV (F:Nat->Bool)(i:Nat):Value:=.bool (F i)
def upd {α:Type}(f:Nat->α)(v:Nat)(x:α)(i:Nat):α:=if i=v then x else f i
theorem Zau {α:Type}(f:Nat->α)(v:Nat)(x:α):upd f v x v=x:=by simp [upd]
theorem Zao {α:Type}(f:Nat->α){i:Nat}(x:α)(h:i≠v):upd f v x i=f i:=by simp [upd,h]
structure SSt (W:World) (g b:Nat) (o:Nat->Nat->Int) (F:Nat->Bool) (c:Nat->Int) (h:Nat->List Int) (hv:Nat->Value):Prop where
 gb:g<b
 ln:W.heap[g]? = some (.cells (rowA (ZhW o) 49) 3)
 cs:W.heap[b]? = some (.cells (rowA (Zos c) 7) 3)
 hs:W.heap[b+1]? = some (.cells (rowA hv 7) 28)
 ds:W.heap[b+1+1]? = some (.cells (rowA (doneV F) 7) 4)
 rows:∀ v,W.ownsRow (b+3) 3 1 (hv v) (h v).length (flat intE (h v))
 short:∀ v,(h v).length<=6
theorem SSt.size (s:SSt W g b o F c h hv):b+3<=W.heap.size:=by
 have:=Zab s.ds;omega
theorem SSt.below {W':World}(s:SSt W g b o F c h hv)(hb:T_ W W'):SSt W' g b o F c h hv:=
 ⟨s.gb,(hb.block _ (Zab s.ln)).trans s.ln,(hb.block _ (Zab s.cs)).trans s.cs,(hb.block _ (Zab s.hs)).trans s.hs,(hb.block _ (Zab s.ds)).trans s.ds,fun v=>Zad (s.rows v) hb (YA _),s.short⟩
theorem SSt.cost (s:SSt W g b o F c h hv)(h1:1<=v)(h6:v<=6):W.cell? (U b v)=some (M (c v)):=by
 rw [ZfW s.cs (by omega)];unfold Zos;rw [if_neg (by omega)]
theorem SSt.done (s:SSt W g b o F c h hv)(h6:v<=6):W.cell? (U (b+1+1) v)=some (.bool (F v)):=by
 rw [ZfW s.ds (by omega)];rfl
theorem SSt.hop (s:SSt W g b o F c h hv)(h6:v<=6):W.cell? (U (b+1) v)=some (hv v):=ZfW s.hs (by omega)
theorem SSt.link (s:SSt W g b o F c h hv)(h5:u<=6)(h6:v<=6):W.cell? (U g (u*7+v))=some (M (o u v)):=Zmq s.ln h5 h6
theorem SSt.setC (s:SSt W g b o F c h hv)(h1:1<=v)(x:Int):SSt (W.setCell (U b v) (M x)) g b o F (upd c v x) h hv:=by
 have hg:=s.gb;refine⟨s.gb,(YAU W (U b v) g _ (by show g≠b;omega)).trans s.ln,?_,(YAU W (U b v) (b+1) _ (by show b+1≠b;omega)).trans s.hs,(YAU W (U b v) (b+1+1) _ (by show b+1+1≠b;omega)).trans s.ds,fun u=>Zbk (s.rows u) (by omega),s.short⟩;rw [ZgM s.cs,ZdP (fun i _=>?_)];unfold Zos upd;by_cases e:i=v
 ·subst e;rw [if_pos rfl,if_neg (by omega),if_pos rfl]
 ·rw [if_neg e];simp [e]
theorem SSt.setD (s:SSt W g b o F c h hv)(v:Nat):SSt (W.setCell (U (b+1+1) v) (.bool true)) g b o (fun x=>F x||x==v) c h hv:=by
 have hg:=s.gb;refine⟨s.gb,(YAU W (U (b+1+1) v) g _ (by show g≠b+1+1;omega)).trans s.ln,(YAU W (U (b+1+1) v) b _ (by show b≠b+1+1;omega)).trans s.cs,(YAU W (U (b+1+1) v) (b+1) _ (by show b+1≠b+1+1;omega)).trans s.hs,?_,fun u=>Zbk (s.rows u) (by omega),s.short⟩;rw [ZgM s.ds,ZdP (fun i _=>?_)];unfold doneV;by_cases e:i=v
 ·subst e;simp
 ·simp [e]
theorem SSt.setH (s:SSt W g b o F c h hv)(v:Nat){x:Value}{l:List Int}(hx:W.ownsRow (b+3) 3 1 x l.length (flat intE l))(hl:l.length<=6):SSt (W.setCell (U (b+1) v) x) g b o F c (upd h v l) (upd hv v x):=by
 have hg:=s.gb;refine⟨s.gb,(YAU W (U (b+1) v) g _ (by show g≠b+1;omega)).trans s.ln,(YAU W (U (b+1) v) b _ (by show b≠b+1;omega)).trans s.cs,?_,(YAU W (U (b+1) v) (b+1+1) _ (by show b+1+1≠b+1;omega)).trans s.ds,fun u=>?_,fun u=>?_⟩
 ·rw [ZgM s.hs];rfl
 ·unfold upd;by_cases e:u=v
  ·rw [if_pos e,if_pos e];exact Zbk hx (by omega)
  ·rw [if_neg e,if_neg e];exact Zbk (s.rows u) (by omega)
 ·unfold upd;by_cases e:u=v
  ·rw [if_pos e];exact hl
  ·rw [if_neg e];exact s.short u
theorem SSt.congr {d:Nat->Int}(s:SSt W g b o F c h hv)(hc:∀ v,1<=v->v<=6->d v=c v):SSt W g b o F d h hv:=by
 refine⟨s.gb,s.ln,?_,s.hs,s.ds,s.rows,s.short⟩;rw [s.cs,ZdP (fun i hi=>?_)];unfold Zos;by_cases e:i=0
 ·rw [if_pos e,if_pos e]
 ·rw [if_neg e,if_neg e,hc i (by omega) (by omega)]
theorem SSt.start  (hg:W.heap[g]? = some (.cells (rowA (ZhW o) 49) 3)):
  SSt (((W.alloc (.cells (rowA (fun _=>M 0) 7) 3)).alloc (.cells (rowA (fun _=>.slice none 0 0) 7) 28)).alloc (.cells (rowA (fun _=>.bool false) 7) 4)) g W.heap.size o (fun _=>false) (fun _=>0) (fun _=>[]) (fun _=>.slice none 0 0):=by
 have hlt:=Zab hg;refine⟨hlt,?_,?_,?_,?_,fun v=>YAX _ _ _ _,by simp⟩
 ·rw [YAL _ _ _ (by simp;omega),YAL _ _ _ (by simp;omega),YAL _ _ _ hlt];exact hg
 ·rw [YAL _ _ _ (by simp;omega),YAL _ _ _ (by simp),YAE,ZdP (fun i _=>?_)];unfold Zos;simp
 ·rw [YAL _ _ _ (by simp)];have e:=YAE (W.alloc (.cells (rowA (fun _=>M 0) 7) 3)) (.cells (rowA (fun _=>.slice none 0 0) 7) 28);rw [show (W.alloc (.cells (rowA (fun _=>M 0) 7) 3)).heap.size=W.heap.size+1 by simp] at e;exact e
 ·have e:=YAE ((W.alloc (.cells (rowA (fun _=>M 0) 7) 3)).alloc (.cells (rowA (fun _=>.slice none 0 0) 7) 28)) (.cells (rowA (fun _=>.bool false) 7) 4);rw [show ((W.alloc (.cells (rowA (fun _=>M 0) 7) 3)).alloc (.cells (rowA (fun _=>.slice none 0 0) 7) 28)).heap.size=W.heap.size+1+1 by simp] at e;exact e
theorem ZiK (a b:List Int)(x:Int):∀ k:Nat,x∈addT a b k↔(1<=x/\x<=(k:Int)/\(x∈a\/x∈b))
 | 0=>by simp [addT];omega
 | k+1=>by
  unfold addT;rw [YAF,ZiK a b x k];by_cases e:(k:Int)+1∈a\/(k:Int)+1∈b
  ·rw [if_pos e];simp only [YAy];constructor
   ·rintro (⟨h1,h2,h3⟩ | rfl)
    ·exact ⟨h1,by omega,h3⟩
    ·exact ⟨by omega,by omega,e⟩
   ·rintro ⟨h1,h2,h3⟩;by_cases e2:x=(k:Int)+1
    ·exact .inr e2
    ·exact .inl ⟨h1,by omega,h3⟩
  ·rw [if_neg e];simp only [List.not_mem_nil,or_false];constructor
   ·rintro ⟨h1,h2,h3⟩;exact⟨h1,by omega,h3⟩
   ·rintro ⟨h1,h2,h3⟩;refine⟨h1,?_,h3⟩;by_cases e2:x=(k:Int)+1
    ·subst e2;exact absurd h3 e
    ·omega
theorem Zl8 (a b:List Int):∀ k:Nat,(addT a b k).Pairwise (· < ·)
 | 0=>by simp [addT]
 | k+1=>by
  unfold addT;rw [YAQ];refine⟨Zl8 a b k,by split <;> simp,?_⟩;intro x hx y hy;have h1:=(ZiK a b x k).1 hx
  split at hy
  ·simp at hy;omega
  ·cases hy
theorem ZgF {a b:List Int}:x∈addL a b↔(1<=x/\x<=6/\(x∈a\/x∈b)):=ZiK a b x 6
theorem ZgD (a b:List Int):(addL a b).Pairwise (· < ·):=Zl8 a b 6
theorem ZcP (a b:List Int):(addL a b).length<=6:=ZiJ a b 6
def wayL (src:Nat)(h:Nat->List Int)(u v:Nat):List Int:=if u=src then [(v:Int)] else h u
theorem ZjH :x∈wayL src h u v↔ZdT src h u v x:=by
 unfold wayL ZdT;by_cases e:u=src
 ·rw [if_pos e];simp [e]
 ·rw [if_neg e];simp [e]
def ZbK (L:Nat->Nat->Int)(src:Nat)(c:Nat->Int)(h:Nat->List Int)(u v:Nat):List Int:=
 if 0<L u v then (if c v<0\/c u+L u v<c v then addL [] (wayL src h u v) else if c u+L u v=c v then addL (h v) (wayL src h u v) else h v) else h v
theorem Zfo (I:Inv L src F c h)(hL:Links L K)(hu:0<=c u)(v:Nat):RelaxH L src c h u v (ZbK L src c h u v):=by
 have hrng:∀ x,0<L u v->ZdT src h u v x->1<=x/\x<=6:=by
  intro x hl ho;rcases ho with ⟨_,rfl⟩ | ⟨_,h2⟩
  ·have:=(hL.node u v hl).2;unfold Zc8 at this;omega
  ·exact I.rng u x h2
 have hneg:c v<0->∀ x,x ∉ h v:=by
  intro hc x hx;by_cases e:v=src
  ·subst e;rw [I.start0] at hx;cases hx
  ·have:=((I.hop v e x).1 hx).1;omega
 unfold ZbK;by_cases h1:0<L u v
 ·rw [if_pos h1];by_cases h2:c v<0\/c u+L u v<c v
  ·rw [if_pos h2];have e:ZaC L c u v=c u+L u v:=by unfold ZaC;rw [if_pos ⟨h1,h2⟩]
   refine⟨ZgD _ _,fun x=>?_⟩;rw [ZgF,e,ZjH];constructor
   ·rintro ⟨_,_,h5 | h5⟩
    ·cases h5
    ·exact .inr ⟨h1,rfl,h5⟩
   ·rintro (⟨h5,h6⟩ | ⟨_,_,h5⟩)
    ·omega
    ·have:=hrng x h1 h5;exact⟨this.1,this.2,.inr h5⟩
  ·rw [if_neg h2];have e:ZaC L c u v=c v:=by unfold ZaC;rw [if_neg (fun hc=>h2 hc.2)]
   by_cases h3:c u+L u v=c v
   ·rw [if_pos h3];refine⟨ZgD _ _,fun x=>?_⟩;rw [ZgF,e,ZjH];constructor
    ·rintro ⟨_,_,h5 | h5⟩
     ·exact .inl ⟨h5,rfl⟩
     ·exact .inr ⟨h1,h3.symm,h5⟩
    ·rintro (⟨h5,_⟩ | ⟨_,_,h5⟩)
     ·have:=I.rng v x h5;exact⟨this.1,this.2,.inl h5⟩
     ·have:=hrng x h1 h5;exact⟨this.1,this.2,.inr h5⟩
   ·rw [if_neg h3];refine⟨I.asc v,fun x=>?_⟩;rw [e];constructor
    ·intro h5;exact .inl ⟨h5,rfl⟩
    ·rintro (⟨h5,_⟩ | ⟨_,h6,_⟩)
     ·exact h5
     ·omega
 ·rw [if_neg h1];have e:ZaC L c u v=c v:=by unfold ZaC;rw [if_neg (fun hc=>h1 hc.1)]
  refine⟨I.asc v,fun x=>?_⟩;rw [e];constructor
  ·intro h5;exact .inl ⟨h5,rfl⟩
  ·rintro (⟨h5,_⟩ | ⟨h6,_⟩)
   ·exact h5
   ·exact absurd h6 h1
def mixC (L:Nat->Nat->Int)(c:Nat->Int)(u j v:Nat):Int:=if v<j then ZaC L c u v else c v
def mixH (L:Nat->Nat->Int)(src:Nat)(c:Nat->Int)(h:Nat->List Int)(u j v:Nat):List Int:=if v<j then ZbK L src c h u v else h v
theorem Zmw (hL:Links L K)(c:Nat->Int)(u:Nat):mixC L c u 1=c:=by
 funext v;unfold mixC;by_cases e:v<1
 ·rw [if_pos e];unfold ZaC;rw [if_neg (fun hc=>by have:=(hL.node u v hc.1).2;unfold Zc8 at this;omega)]
 ·rw [if_neg e]
theorem Zmy (hL:Links L K)(src:Nat)(c:Nat->Int)(h:Nat->List Int)(u:Nat):mixH L src c h u 1=h:=by
 funext v;unfold mixH;by_cases e:v<1
 ·rw [if_pos e];unfold ZbK;rw [if_neg (fun hc=>by have:=(hL.node u v hc).2;unfold Zc8 at this;omega)]
 ·rw [if_neg e]
theorem ZdK (L:Nat->Nat->Int)(c:Nat->Int)(u j:Nat):mixC L c u (j+1)=upd (mixC L c u j) j (ZaC L c u j):=by
 funext v;unfold upd;show (if v<j+1 then ZaC L c u v else c v)=if v=j then ZaC L c u j else if v<j then ZaC L c u v else c v
 by_cases e:v=j
 ·rw [if_pos (by omega),if_pos e,e]
 ·rw [if_neg e];by_cases e2:v<j
  ·rw [if_pos e2,if_pos (by omega)]
  ·rw [if_neg e2,if_neg (by omega)]
theorem Zcp (L:Nat->Nat->Int)(src:Nat)(c:Nat->Int)(h:Nat->List Int)(u j:Nat):mixH L src c h u (j+1)=upd (mixH L src c h u j) j (ZbK L src c h u j):=by
 funext v;unfold upd;show (if v<j+1 then ZbK L src c h u v else h v)=if v=j then ZbK L src c h u j else if v<j then ZbK L src c h u v else h v
 by_cases e:v=j
 ·rw [if_pos (by omega),if_pos e,e]
 ·rw [if_neg e];by_cases e2:v<j
  ·rw [if_pos e2,if_pos (by omega)]
  ·rw [if_neg e2,if_neg (by omega)]
theorem ZdJ :mixC L c u j j=c j:=by
 unfold mixC;rw [if_neg (by omega)]
theorem ZfO :mixH L src c h u j j=h j:=by
 unfold mixH;rw [if_neg (by omega)]
theorem ZrJ {α:Type}(f:Nat->α)(v:Nat):upd f v (f v)=f:=by
 funext i;unfold upd;by_cases e:i=v
 ·rw [if_pos e,e]
 ·rw [if_neg e]
theorem Zde (e:ZaC L c u j=c j):mixC L c u (j+1)=mixC L c u j:=by
 rw [ZdK,e, <-ZdJ (L:=L) (c:=c) (u:=u) (j:=j),ZrJ]
theorem ZfN (e:ZbK L src c h u j=h j):mixH L src c h u (j+1)=mixH L src c h u j:=by
 rw [Zcp,e, <-ZfO (L:=L) (src:=src) (c:=c) (h:=h) (u:=u) (j:=j),ZrJ]
theorem Zmv (hL:Links L K)(c:Nat->Int)(u:Nat):mixC L c u 7=fun v=>ZaC L c u v:=by
 funext v;unfold mixC;by_cases e:v<7
 ·rw [if_pos e]
 ·rw [if_neg e];unfold ZaC;rw [if_neg (fun hc=>by have:=(hL.node u v hc.1).2;unfold Zc8 at this;omega)]
theorem Zmx (hL:Links L K)(src:Nat)(c:Nat->Int)(h:Nat->List Int)(u:Nat):mixH L src c h u 7=fun v=>ZbK L src c h u v:=by
 funext v;unfold mixH;by_cases e:v<7
 ·rw [if_pos e]
 ·rw [if_neg e];unfold ZbK;rw [if_neg (fun hc=>by have:=(hL.node u v hc).2;unfold Zc8 at this;omega)]
theorem Zfn (e:¬0<L u v):ZbK L src c h u v=h v/\ZaC L c u v=c v:=by
 unfold ZbK ZaC;rw [if_neg e,if_neg (fun hc=>e hc.1)];exact⟨rfl,rfl⟩
theorem Zd3 (h0:0<=c v)(e:c v<c u+L u v):ZbK L src c h u v=h v/\ZaC L c u v=c v:=by
 unfold ZbK ZaC;constructor
 ·split
  ·rw [if_neg (by omega),if_neg (by omega)]
  ·rfl
 ·rw [if_neg (by omega)]
theorem Zdj (hl:0<L u v)(e:c v<0\/c u+L u v<c v):ZbK L src c h u v=addL [] (wayL src h u v)/\ZaC L c u v=c u+L u v:=by
 unfold ZbK ZaC;rw [if_pos hl,if_pos e,if_pos ⟨hl,e⟩];exact⟨rfl,rfl⟩
theorem Zfm (hl:0<L u v)(h0:0<=c v)(e:c u+L u v=c v):ZbK L src c h u v=addL (h v) (wayL src h u v)/\ZaC L c u v=c v:=by
 unfold ZbK ZaC;rw [if_pos hl,if_neg (by omega),if_pos e,if_neg (by omega)];exact⟨rfl,rfl⟩
def hinD (ls:List Lk)(id a:Int)(es:List (Int × Int)):List Nr:=(es.filter (fun e=>e.2==a)).map (fun e=>⟨e.1,ZcR ls id e.1 a⟩)
theorem Zqv {id a:Int}{es:List (Int × Int)}{e:Int × Int}(h:es[k]? = some e):hinD ls id a (es.take (k+1))=hinD ls id a (es.take k)++(if e.2==a then [⟨e.1,ZcR ls id e.1 a⟩] else []):=by
 obtain⟨hk,he⟩:=YAD.1 h;unfold hinD;rw [YAI hk,he,List.filter_append,YAh];congr 1;by_cases h1:(e.2==a)=true
 ·simp [h1]
 ·simp [h1]
theorem ZoJ (ls:List Lk)(id a:Int)(es:List (Int × Int)):(hinD ls id a es).length<=es.length:=by
 unfold hinD;rw [List.length_map];exact List.length_filter_le _ _
theorem Zlj (v1 v2 v3 v4:Value)(x:SelfD)(a:Int)(w:World)(hl:x.net.ls.length<=1048576)(hh:x.heard.length<=1048576)(h1:ZaV w v1 x.net.ls w.heap.size)(h3:ZaI w v3 x.heard w.heap.size):
  Calls Tryz.prog 148 #[ZlR x v1 v2 v3 v4,M a] w fun e w'=>∃ u,e=.returned u/\w'.ownsRow w.heap.size 106 2 u (hinD x.net.ls x.id a (ZaK x.heard)).length (flat nrE (hinD x.net.ls x.id a (ZaK x.heard)))/\T_ w w':=by
 obtain⟨a1,c1,rfl⟩:=ZaV.shape h1;obtain⟨a3,c3,rfl⟩:=h3.shape;have HC:=hide (fun W (hb:T_ w W) (t:Int)=>ZoO (M x.net.n) (.slice a1 x.net.ls.length c1) v2 x.net.ls x.id t a W hl (Zaw.then h1 hb));have HE:=hide (fun W (hb:T_ w W)=>Zi9 (.slice a3 x.heard.length c3) x.heard W hh (h3.then hb));have hpl:=ZfU x.heard;have HPL:=hide hpl;clear h1 h3 hpl;have G0:=hide (YAE w (.cells #[M x.id,M x.boot,M x.net.n,.slice a1 x.net.ls.length c1,v2,.slice a3 x.heard.length c3,v4] 31));have B0:T_ w (w.alloc (.cells #[M x.id,M x.boot,M x.net.n,.slice a1 x.net.ls.length c1,v2,.slice a3 x.heard.length c3,v4] 31)):=(YAC _ _).alloc (YA _) _;obtain⟨es,hes⟩:∃ es,es=ZaK x.heard:=⟨_,rfl⟩;rw [<-hes] at HE HPL |-;clear hes
 go_enter Tryz.func148,Tryz.ntmps148
 go_wp2_with fail
 refine (HE _ B0).mono ?_;rintro e w1 ⟨u,rfl,hu,b1⟩;obtain⟨ea,ec,rfl⟩:=Zac hu;have B1:T_ w w1:=B0.trans (b1.mono B0.size);have hlt0:=Zab G0;have hg1:=(b1.block _ hlt0).trans G0;have G1:=hide hg1;have hs1:=b1.size;have hz1:w.heap.size<w1.heap.size:=Zab hg1;have EA:=hide (show Zh8 w1 (.slice ea es.length ec) es w1.heap.size from Zan hu);have z0:=Zaa hg1 0;have z2:=Zaa hg1 2;have z3:=Zaa hg1 3;have z4:=Zaa hg1 4;simp at z0 z2 z3 z4;clear hg1 hu b1 G0 B0 HE hlt0;go_wp2
 go_loopw [12,5] (fun i o wr=>∃ (k:Nat) (u:Value),k<=es.length/\i=M k/\o=u/\Hid (wr.ownsRow w1.heap.size 106 2 u (hinD x.net.ls x.id a (es.take k)).length (flat nrE (hinD x.net.ls x.id a (es.take k))))/\T_ w1 wr) (fun i _ _=>es.length-(intOf i).toNat)
 case atStart=>exact ⟨0,_,by omega,rfl,rfl,hide (by simp [hinD];exact YAX _ _ _ _),YAC _ _⟩
 case round=>
  obtain⟨k,u,hk,rfl,rfl,OW,hnx⟩:=hrel;obtain⟨ua,uc,hue⟩:=Zac OW.out;have hsz:=hnx.size;have hel:es.length<=1048576:=by have:=HPL.out;omega
  by_cases hlt:k<es.length
  ·obtain ⟨p,hp⟩:∃ p,es[k]? = some p:=⟨es[k],YAA hlt⟩;obtain⟨b,off,cap',hve,hbb,d0,d1⟩:=Zh8.cells EA.out k p hp;cases hve;replace d0:=(hnx.cell hbb).trans d0;replace d1:=(hnx.cell hbb).trans d1;have HST:=hide (Zqv (ls:=x.net.ls) (id:=x.id) (a:=a) hp);have hki:(0:Int)<=(k:Int):=by omega
   have hkj:(k:Int)<(es.length:Int):=by omega
   have hbr:¬b=wr.heap.size:=by omega
   have HQL:=hide (show (hinD x.net.ls x.id a (es.take k)).length<=1048576 by
    have h2:=ZoJ x.net.ls x.id a (es.take k);simp at h2;omega)
   clear hp;subst hue;by_cases hpa:p.2=a
   ·have hd:(p.2==a)=true:=by simpa using hpa
    have HD:=hide hd;clear hpa;go_wp2;obtain⟨wx,hwx⟩:∃ wx,wx=wr.alloc (.cells #[M p.1,M p.2] 167):=⟨_,rfl⟩;rw [<-hwx];have BX0:T_ wr wx:=by rw [hwx];exact (YAC _ _).alloc (YA _) _
    have BX:T_ w1 wx:=hnx.trans (BX0.mono hsz);have OX:=hide (show wx.ownsRow w1.heap.size 106 2 (.slice ua (hinD x.net.ls x.id a (es.take k)).length uc) (hinD x.net.ls x.id a (es.take k)).length (flat nrE (hinD x.net.ls x.id a (es.take k))) from Zad OW BX0 (YA _));have ge:wx.heap[wr.heap.size]? = some (.cells #[M p.1,M p.2] 167):=by rw [hwx];exact YAE _ _
    have e0:=Zaa ge 0;simp at e0;have hxs:wr.heap.size<wx.heap.size:=Zab ge;clear ge hwx BX0;replace z0:=(BX.cell hz1).trans z0;replace z2:=(BX.cell hz1).trans z2;replace z3:=(BX.cell hz1).trans z3;replace z4:=(BX.cell hz1).trans z4;have HCX:=hide (HC wx.drew (B1.trans (BX.mono B1.size)).drew p.1);obtain⟨c,hc⟩:∃ c,c=ZcR x.net.ls x.id p.1 a:=⟨_,rfl⟩;rw [<-hc] at HCX HST;clear hc d0 d1;have NE0:some w.heap.size≠(Value.slice ua (hinD x.net.ls x.id a (es.take k)).length uc).ownBlock:=fun e=>by have:=(OX.out.lt _ e.symm).1;omega
    have NE1:some wr.heap.size≠(Value.slice ua (hinD x.net.ls x.id a (es.take k)).length uc).ownBlock:=fun e=>by have:=(OW.out.lt _ e.symm).2;omega
    have hz2:w.heap.size<wx.heap.size:=by omega
    -- REGION
    refine Zah (S:=(fun (W:World)=>W.cell? (U w.heap.size 0)=some (M x.id)/\W.cell? (U w.heap.size 2)=some (M x.net.n)/\W.cell? (U w.heap.size 3)=some (.slice a1 x.net.ls.length c1)/\W.cell? (U w.heap.size 4)=some (v2)/\W.cell? (U wr.heap.size 0)=some (M p.1))) (by kernel_rfl) 15 rfl ⟨z0,z2,z3,z4,e0⟩ (fun ops hops hHeld=>?_)
    iterate 10 (refine TK 15 ?_;try simp only [putS])
    refine TC 10 ?_;intro K hK;go_simp;refine HCX.out.mono ?_;rintro e w2 ⟨rfl,bc⟩;have hbs:wx.heap.size<=w2.heap.size:=bc.size;refine hK _ _ ?_ (fun hHeld=>?_)
    ·obtain ⟨m0,m1,m2,m3,m4⟩:=hHeld;exact⟨(bc.cell hz2).trans m0,(bc.cell hz2).trans m1,(bc.cell hz2).trans m2,(bc.cell hz2).trans m3,(bc.cell hxs).trans m4⟩
    clear hK K
    try simp only [putS]
    refine TK 15 ?_
    try simp only [putS]
    refine TC 12 ?_;intro K hK;go_simp;refine hK _ _ ?_ (fun hHeld=>?_)
    ·obtain ⟨m0,m1,m2,m3,m4⟩:=hHeld;exact⟨(((YAC w2.heap.size w2).alloc (YA _) _).cell (YAB hz2 bc.size)).trans m0,(((YAC w2.heap.size w2).alloc (YA _) _).cell (YAB hz2 bc.size)).trans m1,(((YAC w2.heap.size w2).alloc (YA _) _).cell (YAB hz2 bc.size)).trans m2,(((YAC w2.heap.size w2).alloc (YA _) _).cell (YAB hz2 bc.size)).trans m3,(((YAC w2.heap.size w2).alloc (YA _) _).cell (YAB hxs bc.size)).trans m4⟩
    clear hK K
    try simp only [putS]
    refine TC 13 ?_;intro K hK;refine Ze5 Zjk (by omega) (by omega) _ _ _ 37 rfl w1.heap.size 106 Tryz.underlying37 (nrV nr0) rfl Tryz.infoNr (.slice ua (hinD x.net.ls x.id a (es.take k)).length uc) (hinD x.net.ls x.id a (es.take k)) (⟨p.1,c⟩:Nr) (ZmD _) rfl ((Zad OX.out.drew bc (YA _)).alloc _) (U w2.heap.size 0) 1 rfl (Zar (cs:=nrE ⟨p.1,c⟩)) (by have:=HQL.out;omega) (by simp;omega) ?_;intro v' w' hown' hgrow;refine hK _ _ ?_ (fun hHeld=>?_)
    ·obtain ⟨m0,m1,m2,m3,m4⟩:=hHeld;exact⟨hgrow.cell m0 NE0,hgrow.cell m1 NE0,hgrow.cell m2 NE0,hgrow.cell m3 NE0,hgrow.cell m4 NE1⟩
    clear hK K
    try simp only [putS]
    refine TK 15 ?_
    try simp only [putS]
    refine wpAnyH_done (by rw [hops.out];kernel_rfl) ?_ _;clear hops ops
    -- END
    have hgs:=hgrow.size;have hds:wx.drew.heap.size=wx.heap.size:=rfl;have BF:T_ w1 w':=((BX.drew.trans (bc.mono (by omega))).alloc (by omega) _).grown hgrow (by simp;omega) (fun k hk=>(OX.out.lt k hk).1);have HO:=hide hown';clear hown' hgrow;go_wp2;go_roundw
    case rel=>exact ⟨k+1,v',by omega,by go_num,rfl,hide (by rw [HST.out,HD.out];exact HO),BF⟩
    case measure=>exact MS_
   ·have hd:(p.2==a)=false:=by simpa using hpa
    have HD:=hide hd;clear hpa;go_wp2;go_roundw
    case rel=>exact ⟨k+1,_,by omega,by go_num,rfl,hide (by rw [HST.out,HD.out];simp only [Bool.false_eq_true,if_false,List.append_nil];exact OW.out.alloc _),hnx.alloc hsz _⟩
    case measure=>exact MS_
  ·have KN:=hide (show es.take k=es from YAP (by omega));subst hue;go_wp2;go_ret;have h1:=OW.out;rw [KN.out] at h1 |-;exact⟨_,rfl,Zaf h1 (by omega),B1.trans (hnx.mono B1.size)⟩
def thgD (id:Int)(t:Th):RecD:=⟨9,3,id,t.k,0,[],t.c,t.f⟩
def Zfu (x:SelfD)(ts:List Th):List RecD:=(ts.filter (fun t=>t.o==x.id)).map (thgD x.id)
theorem ZkI {x:SelfD}{ts:List Th}{t:Th}(h:ts[k]? = some t):Zfu x (ts.take (k+1))=Zfu x (ts.take k)++(if t.o==x.id then [thgD x.id t] else []):=by
 obtain⟨hk,e⟩:=YAD.1 h;unfold Zfu;rw [YAI hk,e,List.filter_append,YAh];congr 1;by_cases h1:(t.o==x.id)=true
 ·simp [h1]
 ·simp [h1]
theorem Zjv (x:SelfD)(ts:List Th):(Zfu x ts).length<=ts.length:=by
 unfold Zfu;rw [List.length_map];exact List.length_filter_le _ _
theorem Zn4 (v1 v2 v3 v4:Value)(x:SelfD)(w:World)(hl:x.net.ts.length<=1048576)(hv:ZaU w v2 x.net.ts w.heap.size):
  Calls Tryz.prog 75 #[ZlR x v1 v2 v3 v4] w fun e w'=>∃ u qs,e=.returned u/\fsts qs=Zfu x x.net.ts/\RecsOwn w' w.heap.size w'.heap.size u qs/\T_ w w':=by
 obtain⟨a2,c2,rfl⟩:=ZaU.shape hv;have HV:=hide hv;clear hv;have G0:=hide (YAE w (.cells #[M x.id,M x.boot,M x.net.n,v1,.slice a2 x.net.ts.length c2,v3,v4] 31));have B0:T_ w (w.alloc (.cells #[M x.id,M x.boot,M x.net.n,v1,.slice a2 x.net.ts.length c2,v3,v4] 31)):=(YAC _ _).alloc (YA _) _
 go_enter Tryz.func75,Tryz.ntmps75
 go_wp2;generalize w.alloc (.cells #[M x.id,M x.boot,M x.net.n,v1,.slice a2 x.net.ts.length c2,v3,v4] 31)=w0 at *
 go_loopw [10,3] (fun i o wr=>∃ (k:Nat) (qs:List RP) (u:Value),k<=x.net.ts.length/\i=M k/\o=u/\Hid (fsts qs=Zfu x (x.net.ts.take k))/\Hid (RecsOwn wr (w.heap.size+1) wr.heap.size u qs)/\Hid (wr.heap[w.heap.size]? = some (.cells #[M x.id,M x.boot,M x.net.n,v1,.slice a2 x.net.ts.length c2,v3,v4] 31))/\T_ w wr) (fun i _ _=>x.net.ts.length-(intOf i).toNat)
 case atStart=>exact ⟨0,[],_,by omega,rfl,rfl,hide (by simp [fsts,Zfu]),hide (⟨YAX _ _ _ _,by intro k hk;simp [Value.ownBlock] at hk,by simp,List.Pairwise.nil⟩),G0,B0⟩
 case round=>
  obtain⟨k,qs,u,hk,rfl,rfl,HM,OW,GB,hnx⟩:=hrel;obtain⟨ua,uc,rfl⟩:=Zac OW.out.row;have hsz:=hnx.size;have hbx:=Zab GB;by_cases hlt:k<x.net.ts.length
  ·obtain ⟨t,ht⟩:∃ t,x.net.ts[k]? = some t:=⟨x.net.ts[k],YAA hlt⟩;obtain⟨b,off,cap',hve,hbb,c0,c1,c2',c3⟩:=HV.out.cells k t ht;cases hve;replace c0:=(hnx.cell hbb).trans c0;replace c1:=(hnx.cell hbb).trans c1;rw [<-hnx.cell (p:=(U b (off+k*4+2))) hbb] at c2';replace c3:=(hnx.cell hbb).trans c3;have HT:=hide ht;have hki:(0:Int)<=(k:Int):=by omega
   have hkj:(k:Int)<(x.net.ts.length:Int):=by omega
   have s0:=Zaa (w:=wr.alloc (.cells #[M t.o,M t.k,M t.c,.bool t.f] 119)) ((YAL _ _ _ hbx).trans GB) 0;simp only [YAN,YAJ] at s0;have HQL:=hide (show qs.length<=1048576 by
    have h1:=congrArg List.length HM;have h2:=Zjv x (x.net.ts.take k);simp [fsts] at h1 h2;omega)
   clear ht;by_cases h1:t.o=x.id
   ·have hd:(t.o==x.id)=true:=by simpa using h1
    have HD:=hide hd;clear h1
    go_wp2_with (first
     | (at_builtin;refine ZaQ Zax (by omega) (by omega) _ rfl _ _ 29 rfl (w.heap.size+1) 39 Tryz.underlying29 (.agg (recC Zbf (.slice none 0 0))) rfl Tryz.infoRec _ qs (thgD x.id t,.slice none 0 0) (Zb2 _ _ _ _) rfl ((OW.out.row.alloc _).alloc _) (U (wr.heap.size+1) 0) 1 rfl ?news (by have:=HQL.out;omega) (by simp;omega) ?_))
    case news=>
     have h:=Zar (w:=wr.alloc (.cells #[M t.o,M t.k,M t.c,.bool t.f] 119)) (cs:=encP (thgD x.id t,.slice none 0 0)) (t:=39);rw [show (wr.alloc (.cells #[M t.o,M t.k,M t.c,.bool t.f] 119)).heap.size=wr.heap.size+1 by simp] at h;exact h
    intro v' w4 hown' hgrow;have b2:T_ wr (wr.alloc (.cells #[M t.o,M t.k,M t.c,.bool t.f] 119)):=(YAC _ _).alloc (YA _) _;have ow4:=OW.out.push (p:=(thgD x.id t,.slice none 0 0)) (b2.alloc b2.size _) (by omega) ⟨YAX _ _ _ _,by intro k hk;simp [Value.ownBlock] at hk⟩ hown' hgrow;have g4:=(hgrow.block w.heap.size (by simp;omega) (fun e=>by have:=(OW.out.row.lt _ e.symm).1;omega)).trans ((YAL _ _ _ (by simp;omega)).trans ((YAL _ _ _ hbx).trans GB));obtain⟨va,vc,rfl⟩:=Zac hown';have B4:T_ w w4:=((hnx.trans (b2.mono hsz)).alloc (by simp;omega) _).grown hgrow (by simp;omega) (fun k hk=>by have:=(OW.out.row.lt k hk).1;omega);have OW4:=hide ow4;have G4:=hide g4;clear ow4 hown' hgrow g4 hd;go_wp2;go_roundw
    case rel=>exact ⟨k+1,qs++[(thgD x.id t,.slice none 0 0)],_,by omega,by go_num,rfl,hide (by rw [ZkI HT.out,HD.out, <-HM.out];simp [fsts]),OW4,G4,B4⟩
    case measure=>exact MS_
   ·have hd:(t.o==x.id)=false:=by simpa using h1
    have HD:=hide hd;clear h1;go_wp2;go_roundw
    case rel=>exact ⟨k+1,qs,_,by omega,by go_num,rfl,hide (by rw [ZkI HT.out,HD.out, <-HM.out];simp),hide ((OW.out.below ((YAC _ _).alloc (YA _) _) (YA _)).wide (YA _) (by simp)),hide ((YAL _ _ _ hbx).trans GB),hnx.alloc hsz _⟩
    case measure=>exact MS_
  ·go_wp2;go_ret;exact⟨_,qs,rfl,by rw [HM.out,YAP (by omega)],OW.out.wide (by omega) (YA _),hnx⟩
end Go.Proofs.YtcnjnibnecpddaaGreat
