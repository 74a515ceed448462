/-
  Parts.
-/
import Derived.Test.YtdhnddfnckgbjaaGreatZi8
import Derived.Test.YtdhnddfnckgbjaaGreatZi9
namespace Go.Proofs.YtdhnddfnckgbjaaGreat
open Go.RowKit
set_option linter.unusedSimpArgs false
set_option linter.unusedVariables false
set_option maxRecDepth 100000
set_option maxHeartbeats 8000000
variable {area:Int}{xs:List RecD}{k:Nat}{o:Nat->Nat->Int}{n:Nr}

def Zd5 (ns:List Nr)(bk:Int->Int)(v:Nat):Nat->Int
 | 0=>0
 | k+1=>match ns[k]? with
  | some n=>if n.to=(v:Int)/\inB n.to 1 6=true/\0<bk n.to then n.c else Zd5 ns bk v k
  | none=>Zd5 ns bk v k
def Zm5 (xs:List RecD)(area:Int)(u v:Nat):Int:=Zd5 (ZdR xs area u).near (fun b=>Zgl xs area b u) v (ZdR xs area u).near.length
def Zgu (o:Nat->Nat->Int)(i:Nat):Value:=.int .i64 (o (i / 7) (i%7))
theorem ZjY {W:World}{g:Nat} (h:W.heap[g]? = some (.cells (rowA (Zgu o) 49) 3)) {a b:Nat} (ha:a<=6) (hb:b<=6):W.cell? ⟨g,a*7+b,none⟩=some (.int .i64 (o a b)):=by
 rw [Zcy h (by omega)];unfold Zgu;rw [show (a*7+b) / 7=a by omega,show (a*7+b)%7=b by omega]
theorem ZlR {W:World}{g:Nat} (h:W.heap[g]? = some (.cells (rowA (Zgu o) 49) 3)) {a b:Nat} (hb:b<=6) (x:Int):
  (W.setCell ⟨g,a*7+b,none⟩ (.int .i64 x)).heap[g]? = some (.cells (rowA (Zgu (fun u v=>if u=a/\v=b then x else o u v)) 49) 3):=by
 rw [ZdP h,Zco (fun i _=>?_)];unfold Zgu;show (if i=a*7+b then Value.int .i64 x else .int .i64 (o (i / 7) (i%7)))=.int .i64 (if i / 7=a/\i%7=b then x else o (i / 7) (i%7));by_cases e:i=a*7+b
 ·rw [if_pos e,if_pos (by omega)]
 ·rw [if_neg e,if_neg (by omega)]
theorem ZeX {ns:List Nr}(bk:Int->Int)(v:Nat)(h:ns[k]? = some n):Zd5 ns bk v (k+1)=if n.to=(v:Int)/\inB n.to 1 6=true/\0<bk n.to then n.c else Zd5 ns bk v k:=by
 show (match ns[k]? with
  | some n=>if n.to=(v:Int)/\inB n.to 1 6=true/\0<bk n.to then n.c else Zd5 ns bk v k
  | none=>Zd5 ns bk v k)=_
 rw [h]
theorem ZfU {x a b:Int}:inB x a b=true↔a<=x/\x<=b:=by simp [inB]
def ZdN (xs:List RecD)(area:Int)(k j u v:Nat):Int:=if u<=k then Zm5 xs area u v else if u=k+1 then Zd5 (ZdR xs area u).near (fun b=>Zgl xs area b u) v j else 0
def ZhU (xs:List RecD)(area:Int)(k j:Nat)(o:Nat->Nat->Int):Prop:=∀ u v,1<=u->u<=6->1<=v->v<=6->o u v=ZdN xs area k j u v
theorem Zm8  (h:ZhU xs area k (ZdR xs area ((k+1:Nat):Int)).near.length o):ZhU xs area (k+1) 0 o:=by
 intro u v h1 h2 h3 h4;rw [h u v h1 h2 h3 h4];unfold ZdN;by_cases e:u<=k
 ·rw [if_pos e,if_pos (by omega)]
 ·rw [if_neg e];by_cases e2:u=k+1
  ·rw [if_pos e2,if_pos (by omega)];subst e2;rfl
  ·rw [if_neg e2,if_neg (by omega)]
   split
   ·rfl
   ·rfl
theorem Zj0 {j:Nat}(h:ZhU xs area k j o) (hn:(ZdR xs area ((k+1:Nat):Int)).near[j]? = some n) (hno:¬(inB n.to 1 6=true/\0<Zgl xs area n.to ((k+1:Nat):Int))):ZhU xs area k (j+1) o:=by
 intro u v h1 h2 h3 h4;rw [h u v h1 h2 h3 h4];unfold ZdN;by_cases e:u<=k
 ·rw [if_pos e,if_pos e]
 ·rw [if_neg e,if_neg e];by_cases e2:u=k+1
  ·rw [if_pos e2,if_pos e2];subst e2;rw [ZeX _ v hn,if_neg (fun hc=>hno hc.2)]
  ·rw [if_neg e2,if_neg e2]
theorem Zok {j t:Nat}(h:ZhU xs area k j o) (hn:(ZdR xs area ((k+1:Nat):Int)).near[j]? = some n) (hyes:inB n.to 1 6=true/\0<Zgl xs area n.to ((k+1:Nat):Int)) (ht:n.to=(t:Int)):ZhU xs area k (j+1) (fun u v=>if u=k+1/\v=t then n.c else o u v):=by
 intro u v h1 h2 h3 h4;have hh:=h u v h1 h2 h3 h4;unfold ZdN at hh |-;by_cases e:u<=k
 ·rw [if_pos e] at hh |-
  show (if u=k+1/\v=t then n.c else o u v)=_;rw [if_neg (by omega)];exact hh
 ·rw [if_neg e] at hh |-
  by_cases e2:u=k+1
  ·rw [if_pos e2] at hh |-
   subst e2;rw [ZeX _ v hn];show (if k+1=k+1/\v=t then n.c else o (k+1) v)=_;by_cases e3:v=t
   ·rw [if_pos ⟨rfl,e3⟩,if_pos ⟨by omega,hyes⟩]
   ·rw [if_neg (fun hc=>e3 hc.2),if_neg (fun hc=>by have:=hc.1;omega)];exact hh
  ·rw [if_neg e2] at hh |-
   show (if u=k+1/\v=t then n.c else o u v)=_;rw [if_neg (fun hc=>e2 hc.1)];exact hh
theorem ZkT (v:Value)(ps:List RP)(hi:Nat)(area:Int)(w:World)(hv:RecsIn w hi v ps)(hhi:hi<=w.heap.size)(hn:tot ps<=1048576):
  Calls Tryz.prog 120 #[v,.int .i64 area] w fun e w'=>∃ o,e=.returned (.slice (some ⟨w.heap.size,0,none⟩) 49 49)/\w'.heap[w.heap.size]? = some (.cells (rowA (Zgu o) 49) 3)/\(∀ u v,1<=u->u<=6->1<=v->v<=6->o u v=Zm5 (fsts ps) area u v)/\Below w.heap.size w w':=by
 obtain⟨a1,c1,rfl⟩:=Zac hv.row;have HN:=hide (fun node W (hb:Below w.heap.size w W)=>Zgg (.slice a1 ps.length c1) ps hi area node W (hv.below hb hhi) (YAG hhi hb.size) hn);have HT:=hide (fun a b W (hb:Below w.heap.size w W)=>Zk0 (.slice a1 ps.length c1) ps hi area a b W (hv.below hb hhi) (YAG hhi hb.size) hn);clear hv;have g0:=YAE w (.cells (rowA (fun _=>.int .i64 0) 49) 3);have B0:Below w.heap.size w (w.alloc (.cells (rowA (fun _=>.int .i64 0) 49) 3)):=(YAB _ _).alloc (YA _) _
 go_enter Tryz.func120,Tryz.ntmps120
 go_wp2_with (first | (at_make;refine Za4 _ rfl _ _ 37 rfl 3 (.int .i64 0) 8 Tryz.underlying37 Tryz.info3 rfl 49 rfl rfl (by omega) (by omega) ?_))
 generalize w.alloc (.cells (rowA (fun _=>.int .i64 0) 49) 3)=w0 at *;go_wp2
 go_loopw [6] (fun i wr=>∃ (k:Nat) (o:Nat->Nat->Int),k<=6/\i=.int .i64 ((k:Int)+1)/\Hid (ZhU (fsts ps) area k 0 o)/\wr.heap[w.heap.size]? = some (.cells (rowA (Zgu o) 49) 3)/\Below w.heap.size w wr) (fun i _=>8-(intOf i).toNat)
 case atStart=>exact ⟨0,fun _ _=>0,by omega,rfl,hide (fun u v h1 h2 h3 h4=>by unfold ZdN;rw [if_neg (by omega)];split <;> rfl),g0,B0⟩
 case round=>
  rename World=>wo
  obtain⟨k,o,hk,rfl,HO,hg,hnx⟩:=hrel;have hsz:=hnx.size;by_cases hlt:k<6
  ·have hk6:(k:Int)+1<=6:=by omega
   have hw1:IntKind.i64.wrap ((k:Int)+1+1)=((k+1:Nat):Int)+1:=by rw [ZbF _ (by omega) (by omega)];omega
   have J:=hide (HN.out ((k:Int)+1) wo hnx);obtain⟨D,hD⟩:∃ D,D=ZdR (fsts ps) area ((k:Int)+1):=⟨_,rfl⟩;obtain⟨NB,hNB⟩:∃ b,b=ZkI (fsts ps) area ((k:Int)+1):=⟨_,rfl⟩;rw [<-hD, <-hNB] at J;have HD:=hide hD;clear hD hNB;unfold recC at J
   go_wp2_with fail
   refine J.out.mono ?_;rintro e w1 ⟨u,rfl,hu,hul,b1⟩;obtain⟨ua,uc,rfl⟩:=ZaJ.shape hu;have hx:=YAE w1 (.cells #[.int .i64 D.area,.int .i64 D.kind,.int .i64 D.owner,.int .i64 D.key,.int .i64 D.seq,.slice ua D.near.length uc,.int .i64 D.cost,.bool D.far] 132);have BX:Below w1.heap.size w1 (w1.alloc (.cells #[.int .i64 D.area,.int .i64 D.kind,.int .i64 D.owner,.int .i64 D.key,.int .i64 D.seq,.slice ua D.near.length uc,.int .i64 D.cost,.bool D.far] 132)):=(YAB _ _).alloc (YA _) _;obtain⟨w2,hw2⟩:∃ W,W=w1.alloc (.cells #[.int .i64 D.area,.int .i64 D.kind,.int .i64 D.owner,.int .i64 D.key,.int .i64 D.seq,.slice ua D.near.length uc,.int .i64 D.cost,.bool D.far] 132):=⟨_,rfl⟩;rw [<-hw2] at hx BX;have B12:Below wo.heap.size wo w2:=b1.trans (BX.mono b1.size);have B2:Below w.heap.size w w2:=hnx.trans (B12.mono hsz);have HU:Hid (ZaJ w2 (.slice ua D.near.length uc) D.near hi):=hide (Zau.later hu BX (by have:=b1.size;omega));have hs2:=Zab hx;have hg2:=(B12.block _ (Zab hg)).trans hg;obtain⟨z,hz⟩:∃ z,z=w1.heap.size:=⟨_,rfl⟩;have HZ:=hide hz;have hzg:w.heap.size<z:=by have:=Zab hg;have:=b1.size;omega
   have HXX:=hide hx;have HG2:=hide hg2;clear hu hx hg hg2 BX b1 J;go_wp2;rw [<-hw2];rw [<-hz];rw [<-hz] at HXX hs2;clear hw2 hz
   go_loopw [9] (fun i wr=>∃ (j:Nat) (o:Nat->Nat->Int),j<=D.near.length/\i=.int .i64 (j:Int)/\Hid (ZhU (fsts ps) area k j o)/\Hid (wr.heap[w.heap.size]? = some (.cells (rowA (Zgu o) 49) 3))/\wr.heap[z]? = some (.cells #[.int .i64 D.area,.int .i64 D.kind,.int .i64 D.owner,.int .i64 D.key,.int .i64 D.seq,.slice ua D.near.length uc,.int .i64 D.cost,.bool D.far] 132)/\Below w.heap.size w2 wr) (fun i _=>D.near.length-(intOf i).toNat)
   case atStart=>exact ⟨0,o,by omega,rfl,HO,HG2,HXX.out,YAB _ _⟩
   case round=>
    obtain⟨j,o,hj,rfl,HO,HG,hz,hnq⟩:=hrel;have BQ:Below w.heap.size w wr:=B2.trans hnq;have d5:=Zaa hz 5;simp at d5;have HZZ:=hide hz;clear hz;by_cases hjl:j<D.near.length
    ·obtain ⟨n,hn⟩:∃ n,D.near[j]? = some n:=⟨D.near[j],YAA hjl⟩;have hNq:=(Zau.later HU.out hnq hhi);obtain⟨b,off,cp,hve,hbb,c0,c1⟩:=ZaJ.cells hNq j n hn;cases hve;have hji:(0:Int)<=(j:Int):=by omega
     have hjj:(j:Int)<(D.near.length:Int):=by omega
     have HNJ:=hide hn;clear hn hNq;by_cases hin:inB n.to 1 6=true
     ·obtain ⟨t,ht⟩:∃ t:Nat,n.to=(t:Int):=⟨n.to.toNat,by have:=ZfU.1 hin;omega⟩;have ht6:=ZfU.1 hin;rw [ht] at ht6 c0;have hin':inB (t:Int) 1 6=true:=by rw [<-ht];exact hin
      by_cases hbk:0<Zgl (fsts ps) area (t:Int) ((k:Int)+1)
      ·have hTL:=hide (HT.out (t:Int) ((k:Int)+1) wr BQ)
       go_wp2_with fail
       refine (Zbs _ _ _ _).mono ?_;rintro e w3 ⟨rfl,rfl⟩;rw [hin']
       go_wp2_with fail
       refine hTL.out.mono ?_;rintro e w3 ⟨rfl,b3⟩;have hs3:=b3.size;have HMS:=hide (Zok HO.out (by rw [<-show (k:Int)+1=((k+1:Nat):Int) by omega, <-HD.out];exact HNJ.out) (by rw [<-show (k:Int)+1=((k+1:Nat):Int) by omega,ht];exact⟨hin',hbk⟩) ht);have hg3:=(b3.block _ (Zab HG.out)).trans HG.out;have hz3:=(b3.block _ (Zab HZZ.out)).trans HZZ.out;have B3:Below w.heap.size w2 w3:=hnq.trans (b3.mono BQ.size);have hbq:b<wr.heap.size:=by have:=BQ.size;omega
       replace c0:=(b3.cell hbq).trans c0;replace c1:=(b3.cell hbq).trans c1;replace d5:=(b3.cell (Zab HZZ.out)).trans d5;have dg:=ZjY hg3 (a:=k+1) (b:=t) (by omega) (by omega);have fg:=Zae hg3;have HP:=hide (ZlR hg3 (a:=k+1) (b:=t) (by omega) n.c);have HZP:=hide ((YAQ w3 ⟨w.heap.size,(k+1)*7+t,none⟩ z (.int .i64 n.c) (by show z≠w.heap.size;omega)).trans hz3);have BP:=hide (show Below w.heap.size w2 (w3.setCell ⟨w.heap.size,(k+1)*7+t,none⟩ (.int .i64 n.c)) from B3.setCell (p:=⟨w.heap.size,(k+1)*7+t,none⟩) (YA _) _);have hm1:IntKind.i64.wrap (((k:Int)+1)*7)=(((k+1)*7:Nat):Int):=by rw [ZbF _ (by omega) (by omega)];omega
       have hm2:IntKind.i64.wrap ((((k+1)*7:Nat):Int)+(t:Int))=(((k+1)*7+t:Nat):Int):=by rw [ZbF _ (by omega) (by omega)];omega
       have hm3:(0:Int)<=(((k+1)*7+t:Nat):Int):=by omega
       have hm4:(((k+1)*7+t:Nat):Int)<49:=by omega
       clear hg3 hz3 hTL HO HG HZZ HU HXX HG2 HN HT;go_wp2
       go_region
       go_wp2;go_roundw
       case rel=>exact ⟨j+1,_,by omega,by go_num,HMS,HP,HZP.out,BP.out.trans ⟨rfl,rfl,rfl,YA _,fun _ _=>rfl⟩⟩
       case measure=>simp [intOf];omega
      ·have hTL:=hide (HT.out (t:Int) ((k:Int)+1) wr BQ)
       go_wp2_with fail
       refine (Zbs _ _ _ _).mono ?_;rintro e w3 ⟨rfl,rfl⟩;rw [hin']
       go_wp2_with fail
       refine hTL.out.mono ?_;rintro e w3 ⟨rfl,b3⟩;have hs3:=b3.size;have HMS:=hide (Zj0 HO.out (by rw [<-show (k:Int)+1=((k+1:Nat):Int) by omega, <-HD.out];exact HNJ.out) (fun hc=>by have h2:=hc.2;rw [show ((k+1:Nat):Int)=(k:Int)+1 by omega,ht] at h2;omega));have HG3:=hide ((b3.block _ (Zab HG.out)).trans HG.out);have HZ3:=hide ((b3.block _ (Zab HZZ.out)).trans HZZ.out);have B3:Below w.heap.size w2 w3:=hnq.trans (b3.mono BQ.size);go_wp2;go_roundw
       case rel=>exact ⟨j+1,o,by omega,by go_num,HMS,HG3,HZ3.out,B3⟩
       case measure=>simp [intOf];omega
     ·have hin':inB n.to 1 6=false:=by simpa using hin
      have HMS:=hide (Zj0 HO.out (by rw [<-show (k:Int)+1=((k+1:Nat):Int) by omega, <-HD.out];exact HNJ.out) (fun hc=>hin hc.1))
      go_wp2_with fail
      refine (Zbs _ _ _ _).mono ?_;rintro e w3 ⟨rfl,rfl⟩;rw [hin'];go_wp2;go_roundw
      case rel=>exact ⟨j+1,o,by omega,by go_num,HMS,HG,HZZ.out,hnq⟩
      case measure=>simp [intOf];omega
    ·have hjn:j=D.near.length:=by omega
     have HMN:=hide (Zm8 (k:=k) (o:=o) (by rw [<-show (k:Int)+1=((k+1:Nat):Int) by omega, <-HD.out, <-hjn];exact HO.out));clear hjn;go_wp2;go_roundw
     case rel=>exact ⟨k+1,o,by omega,rfl,HMN,HG.out,BQ⟩
     case measure=>simp [intOf];omega
  ·have hk6:¬(k:Int)+1<=6:=by omega
   have KN:=hide (show ∀ u v,1<=u->u<=6->1<=v->v<=6->o u v=Zm5 (fsts ps) area u v by
    intro u v h1 h2 h3 h4;rw [HO.out u v h1 h2 h3 h4];unfold ZdN;rw [if_pos (by omega)])
   go_wp2;go_ret
   first
    | exact ⟨rfl,o,hg,KN.out,hnx⟩
    | exact ⟨o,rfl,hg,KN.out,hnx⟩
end Go.Proofs.YtdhnddfnckgbjaaGreat
namespace Go.Proofs.YtdhnddfnckgbjaaGreat
open Go.RowKit

theorem ZgB (a b:Lk):Zbg a b=true↔(a.a<b.a\/(a.a=b.a/\(a.b<b.b\/(a.b=b.b/\a.r<b.r)))):=by
 simp [Zbg]

theorem Zg7 (a b:Th):Zbh a b=true↔(a.k<b.k\/(a.k=b.k/\a.o<b.o)):=by
 simp [Zbh]

def ZjE (n:Int)(ls:List Lk):Prop:=(∀ x∈ls,Zbo n x=true)/\ls.Pairwise (fun x y=>Zbg x y=true)

def ZjF (n:Int)(ts:List Th):Prop:=(∀ x∈ts,ZdS n x=true)/\ts.Pairwise (fun x y=>Zbh x y=true)

theorem ZeN {α:Type}{p q:α->Bool}(h:∀ x,p x=true->q x=true->False):∀ ls:List α,(ls.filter p).length+(ls.filter q).length<=ls.length
 | []=>by simp
 | x::xs=>by
  have ih:=ZeN h xs;have hx:=h x;cases hp:p x <;> cases hq:q x <;> simp_all <;> omega

theorem ZeG (ls:List Lk)(l:Lk):(Zd9 ls l).length<=ls.length+1:=by
 have h:=ZeN (p:=fun x=>Zbg x l) (q:=fun x=>Zbg l x) (fun x h1 h2=>by
  simp only [ZgB] at h1 h2;omega) ls
 unfold Zd9;simp only [YAM,YAd,List.length_nil];omega

theorem Znw (ls:List Th)(l:Th):(putT ls l).length<=ls.length+1:=by
 have h:=ZeN (p:=fun x=>Zbh x l) (q:=fun x=>Zbh l x) (fun x h1 h2=>by
  simp only [Zg7] at h1 h2;omega) ls
 unfold putT;simp only [YAM,YAd,List.length_nil];omega

theorem ZcW {n:Int}{ls:List Lk}{l:Lk}(h:ZjE n ls)(hl:Zbo n l=true):ZjE n (Zd9 ls l):=by
 refine⟨?_,?_⟩
 ·intro x hx;simp only [Zd9,YAH,YAT,YAR,List.not_mem_nil,or_false] at hx;rcases hx with (⟨h1,_⟩ | rfl) | ⟨h1,_⟩
  ·exact h.1 x h1
  ·exact hl
  ·exact h.1 x h1
 ·unfold Zd9;refine YAP.2 ⟨YAP.2 ⟨h.2.filter _,List.pairwise_singleton _ _,?_⟩,h.2.filter _,?_⟩
  ·intro x hx y hy;simp only [YAT,YAR,List.not_mem_nil,or_false] at hx hy;rw [hy];exact hx.2
  ·intro x hx y hy;simp only [YAH,YAT,YAR,List.not_mem_nil,or_false] at hx hy;rcases hx with ⟨_,h1⟩ | rfl
   ·have h2:=hy.2;simp only [ZgB] at h1 h2 |-
    omega
   ·exact hy.2

theorem ZkP {n:Int}{ls:List Th}{l:Th}(h:ZjF n ls)(hl:ZdS n l=true):ZjF n (putT ls l):=by
 refine⟨?_,?_⟩
 ·intro x hx;simp only [putT,YAH,YAT,YAR,List.not_mem_nil,or_false] at hx;rcases hx with (⟨h1,_⟩ | rfl) | ⟨h1,_⟩
  ·exact h.1 x h1
  ·exact hl
  ·exact h.1 x h1
 ·unfold putT;refine YAP.2 ⟨YAP.2 ⟨h.2.filter _,List.pairwise_singleton _ _,?_⟩,h.2.filter _,?_⟩
  ·intro x hx y hy;simp only [YAT,YAR,List.not_mem_nil,or_false] at hx hy;rw [hy];exact hx.2
  ·intro x hx y hy;simp only [YAH,YAT,YAR,List.not_mem_nil,or_false] at hx hy;rcases hx with ⟨_,h1⟩ | rfl
   ·have h2:=hy.2;simp only [Zg7] at h1 h2 |-
    omega
   ·exact hy.2

theorem ZjH {α:Type}{ok:α->Bool}{ls:List α}(h:∀ x∈ls,ok x=true):ZcE ok ls=true:=Zbr fun j hj=>by
 rw [Zdd (YAA hj)];exact h _ (YAr hj)

theorem Zlf {α:Type}{ord:α->α->Int}{ls:List α}(h:ls.Pairwise (fun x y=>ord x y<0)):ascB ord ls=true:=Zbr fun j hj=>by
 match j,hj with
 | 0,_=>rfl
 | j+1,hj=>
  rw [Zc3 (YAA (by omega)) (YAA hj)];exact YAi (YAf.1 h j (j+1) (by omega) hj (by omega))

theorem ZlS {n:Int}{ls:List Lk}(h:ZjE n ls)(hl:ls.length<=12):Zfe n ls=true:=by
 unfold Zfe;rw [YAi hl,ZjH h.1,Zlf (h.2.imp fun hxy=>by rw [ZhV] at hxy;exact of_decide_eq_true hxy)];rfl

theorem Zk4 {n:Int}{ls:List Th}(h:ZjF n ls)(hl:ls.length<=4):Zdh n ls=true:=by
 unfold Zdh;rw [YAi hl,ZjH h.1,Zlf (h.2.imp fun hxy=>by rw [ZiF] at hxy;exact of_decide_eq_true hxy)];rfl

theorem Zeu {x a b:Int}(h1:a<=x)(h2:x<=b):inB x a b=true:=by simp [inB,h1,h2]

theorem ZdA {n a b c r:Int}(hn:1<=n/\n<=6)(ha:1<=a)(hab:a<b)(hb:b<=n)(hc:1<=c/\c<=1000)(hr:0<=r/\r<=2):Zbo n ⟨a,b,c,r⟩=true:=by
 unfold Zbo;simp only [];rw [Zeu hn.1 hn.2,Zeu ha (by omega),Zeu (by omega) hb,Zeu hc.1 hc.2,Zeu hr.1 hr.2,YAi hab];rfl

theorem ZoE {n o k c:Int}{f:Bool}(ho:1<=o/\o<=n)(hk:1<=k/\k<=9)(hc:1<=c/\c<=1000):ZdS n ⟨o,k,c,f⟩=true:=by
 unfold ZdS;simp only [];rw [Zeu ho.1 ho.2,Zeu hk.1 hk.2,Zeu hc.1 hc.2];rfl

structure NetSt (w wr:World) (p B0 z:Nat) (a:Option Addr) (len cap:Nat) (N:Int) (v1 v2:Value) (ls:List Lk) (ts:List Th):Prop where
 cur:Cur wr p a len cap
 bel:Below p w wr
 new:w.heap.size<=B0
 gro:w.grownBy wr (some p)
 box:wr.heap[z]? = some (.cells #[.int .i64 N,v1,v2] 81)
 res:wr.heap[B0]? = some (.cells #[.int .i64 0,.slice none 0 0,.slice none 0 0] 81)
 o1:wr.ownsRow (z+1) 99 4 v1 ls.length (flat lkE ls)
 o2:wr.ownsRow (z+1) 103 4 v2 ts.length (flat thE ts)

theorem Zda {w w':World}{base size p:Nat}{e:TypeId}{v:Value}{n:Nat}{xs:List Value}(h:w.ownsRow base e size v n xs)(hg:w.grownBy w' (some p))(hp:p<base):w'.ownsRow base e size v n xs:=h.kept hg (by
 rcases h.2 with ⟨e,_⟩ | ⟨g,cp,cur,e,hb,_⟩
 ·exact .inl (by rw [e];rfl)
 ·refine .inr ?_;rw [e];intro h;simp [Value.ownBlock] at h;omega)

theorem Zdw {w w':World}(hb:Below w.heap.size w w'):w.grownBy w' none:=⟨hb.os,hb.tape,hb.output,hb.size,fun k hk _=>hb.block k hk⟩

section
variable {w wr w':World} {p B0 z:Nat} {a:Option Addr} {len cap:Nat} {N:Int} {v1 v2:Value} {ls:List Lk} {ts:List Th}

theorem NetSt.grown (h:NetSt w wr p B0 z a len cap N v1 v2 ls ts)(hc:Cur w' p a len cap)(hg:wr.grownBy w' (some p))(hp:p<B0)(hz:B0<z):NetSt w w' p B0 z a len cap N v1 v2 ls ts where
 cur:=hc
 bel:=h.bel.grown hg (by have:=Zii h.cur;omega) (fun k hk=>by simp at hk;omega)
 new:=h.new
 gro:=Zaq h.gro hg
 box:=by rw [hg.block z (Zab h.box) (by simp;omega)];exact h.box
 res:=by rw [hg.block B0 (Zab h.res) (by simp;omega)];exact h.res
 o1:=Zda h.o1 hg (by omega)
 o2:=Zda h.o2 hg (by omega)

theorem NetSt.below (h:NetSt w wr p B0 z a len cap N v1 v2 ls ts)(hb:Below wr.heap.size wr w'):NetSt w w' p B0 z a len cap N v1 v2 ls ts where
 cur:=h.cur.grown (Zdw hb) (fun b _=>by simp)
 bel:=h.bel.trans (hb.mono (by have:=Zii h.cur;omega))
 new:=h.new
 gro:=Zaq h.gro ⟨hb.os,hb.tape,hb.output,hb.size,fun k hk _=>hb.block k hk⟩
 box:=by rw [hb.block z (Zab h.box)];exact h.box
 res:=by rw [hb.block B0 (Zab h.res)];exact h.res
 o1:=Zad h.o1 hb (YA _)
 o2:=Zad h.o2 hb (YA _)

theorem NetSt.alloc (h:NetSt w wr p B0 z a len cap N v1 v2 ls ts)(o:Obj):NetSt w (wr.alloc o) p B0 z a len cap N v1 v2 ls ts:=h.below ((YAB _ _).alloc (YA _) _)

theorem NetSt.put1 (h:NetSt w wr p B0 z a len cap N v1 v2 ls ts)(hb:Below wr.heap.size wr w'){v':Value}{ls':List Lk}(ho:w'.ownsRow (wr.heap.size+1) 99 4 v' ls'.length (flat lkE ls'))(hp:p<B0)(hz:B0<z):NetSt w (w'.setCell ⟨z,1,none⟩ v') p B0 z a len cap N v' v2 ls' ts:=
 have h2:=h.below hb;have hzl:=Zab h.box
 {cur:=h2.cur.grown (Zaj w' z 1 v') (fun b hb=>by simp;omega)
  bel:=h2.bel.setCell (by show p<=z;omega) _
  new:=h.new
  gro:=⟨h2.gro.os,h2.gro.tape,h2.gro.output,by have:=h2.gro.size;simpa using this,fun b hb hne=>by rw [YAQ w' ⟨z,1,none⟩ _ _ (by show b≠z;have:=h.new;omega)];exact h2.gro.block b hb hne⟩
  box:=YAS _ _ 1 _ _ v' h2.box
  res:=by rw [YAQ w' ⟨z,1,none⟩ _ _ (by show B0≠z;omega)];exact h2.res
  o1:=ZaH (Zaf ho (by omega)) (by omega)
  o2:=ZaH h2.o2 (by omega) }

theorem NetSt.put2 (h:NetSt w wr p B0 z a len cap N v1 v2 ls ts)(hb:Below wr.heap.size wr w'){v':Value}{ts':List Th}(ho:w'.ownsRow (wr.heap.size+1) 103 4 v' ts'.length (flat thE ts'))(hp:p<B0)(hz:B0<z):NetSt w (w'.setCell ⟨z,2,none⟩ v') p B0 z a len cap N v1 v' ls ts':=
 have h2:=h.below hb;have hzl:=Zab h.box
 {cur:=h2.cur.grown (Zaj w' z 2 v') (fun b hb=>by simp;omega)
  bel:=h2.bel.setCell (by show p<=z;omega) _
  new:=h.new
  gro:=⟨h2.gro.os,h2.gro.tape,h2.gro.output,by have:=h2.gro.size;simpa using this,fun b hb hne=>by rw [YAQ w' ⟨z,2,none⟩ _ _ (by show b≠z;have:=h.new;omega)];exact h2.gro.block b hb hne⟩
  box:=YAS _ _ 2 _ _ v' h2.box
  res:=by rw [YAQ w' ⟨z,2,none⟩ _ _ (by show B0≠z;omega)];exact h2.res
  o1:=ZaH h2.o1 (by omega)
  o2:=ZaH (Zaf ho (by omega)) (by omega) }

theorem NetSt.c0 (h:NetSt w wr p B0 z a len cap N v1 v2 ls ts):wr.cell? ⟨z,0,none⟩=some (.int .i64 N):=by rw [Zaa h.box];rfl

theorem NetSt.c1 (h:NetSt w wr p B0 z a len cap N v1 v2 ls ts):wr.cell? ⟨z,1,none⟩=some v1:=by rw [Zaa h.box];rfl

theorem NetSt.c2 (h:NetSt w wr p B0 z a len cap N v1 v2 ls ts):wr.cell? ⟨z,2,none⟩=some v2:=by rw [Zaa h.box];rfl

theorem NetSt.drew (h:NetSt w wr p B0 z a len cap N v1 v2 ls ts):NetSt w wr.drew p B0 z a len cap N v1 v2 ls ts:=h.below (YAB _ _).drew
end
end Go.Proofs.YtdhnddfnckgbjaaGreat
namespace Go.Proofs.YtdhnddfnckgbjaaGreat
open Go.RowKit
set_option linter.unusedSimpArgs false
set_option linter.unusedVariables false
set_option maxRecDepth 100000
set_option maxHeartbeats 8000000

def ZhL (xs:List RtD):Nat:=(xs.map (fun x=>1+x.hops.length)).sum
theorem Zn6 (ps:List QP):totQ ps=ZhL (ZaY ps):=by simp [totQ,ZhL,ZaY,YAa,Function.comp_def]
theorem Zk7 (x:RtD)(xs:List RtD):ZhL (x::xs)=1+x.hops.length+ZhL xs:=by simp [ZhL]
end Go.Proofs.YtdhnddfnckgbjaaGreat
namespace Go.Proofs.YtdhnddfnckgbjaaGreat
open Go.RowKit
open Go.ChangeMaps (setBlock)

set_option linter.unusedSimpArgs false

abbrev PlP:=Int × JP

def Zbu (p:PlP):List Value:=[.int .i64 p.1,.bool p.2.1.thing,.int .i64 p.2.1.to,p.2.2]

theorem Zds (p:PlP):(Zbu p).length=4:=rfl

def Zbv:Nat->List (PlP × Value)->List MapEntry
 | _,[]=>[]
 | i,x::xs=>⟨kV x.1.2.1.thing x.1.2.1.to,x.2,i⟩::Zbv (i+1) xs

def ksOf (es:List (PlP × Value)):List (Bool × Int):=es.map (fun x=>(x.1.2.1.thing,x.1.2.1.to))

def ZbB (es:List (PlP × Value)):List LnD:=es.map (fun x=>x.1.2.1)

theorem Zdu:∀ (i:Nat)(es:List (PlP × Value)),(Zbv i es).map (·.key)=(ksOf es).map (fun k=>kV k.1 k.2)
 | _,[]=>rfl
 | i,x::xs=>by simp only [Zbv,List.map_cons,ksOf];rw [Zdu (i+1) xs];rfl

theorem Zdt:∀ (i:Nat)(es:List (PlP × Value))(j:Nat),(Zbv i es)[j]? = es[j]?.map (fun x=>(⟨kV x.1.2.1.thing x.1.2.1.to,x.2,i+j⟩:MapEntry))
 | _,[],j=>by simp [Zbv]
 | i,x::xs,0=>by simp [Zbv]
 | i,x::xs,j+1=>by
  simp only [Zbv,YAK];rw [Zdt (i+1) xs j];congr 1;funext y;rw [show i+1+j=i+(j+1) by omega]

theorem ZeM:∀ (i:Nat)(es:List (PlP × Value))(x:PlP × Value),Zbv i (es++[x])=Zbv i es++[⟨kV x.1.2.1.thing x.1.2.1.to,x.2,i+es.length⟩]
 | i,[],x=>by simp [Zbv]
 | i,y::ys,x=>by
  simp only [List.cons_append,Zbv,YAd];rw [ZeM (i+1) ys x,show i+1+ys.length=i+(ys.length+1) by omega]

theorem ZfP (es:List (PlP × Value))(t:Bool)(z:Int):Zbe (ksOf es) t z=(ZbB es).findIdx? (isLn t z):=by
 unfold Zbe ksOf ZbB;rw [List.findIdx?_map,List.findIdx?_map];rfl

theorem ZdM {es:List (PlP × Value)}{t:Bool}{z:Int}(h:idxZ (ZbB es) t z = -1):Zbe (ksOf es) t z=none:=by
 rw [ZfP];unfold idxZ at h;cases e:(ZbB es).findIdx? (isLn t z) with
 | none=>rfl
 | some i=>rw [e] at h;simp at h

structure LmAt (W:World) (lo hi m:Nat) (es:List (PlP × Value)):Prop where
 map:W.heap[m]? = some (.map (Zbv 0 es).toArray es.length)
 low:lo<=m
 high:m<hi
 rows:∀ x∈es,W.ownsRow lo 68 4 x.2 1 (Zbu x.1)/\∀ k,x.2.ownBlock=some k->k<hi

theorem LmAt.below {W W':World}{lo hi m B:Nat}{es:List (PlP × Value)}(h:LmAt W lo hi m es)(hb:Below B W W')(hB:hi<=B):LmAt W' lo hi m es:=
 ⟨(hb.block m (by have:=h.high;omega)).trans h.map,h.low,h.high,fun x hx=>⟨Zai (h.rows x hx).1 (fun k e=>hb.block k (by have:=(h.rows x hx).2 k e;omega)),(h.rows x hx).2⟩⟩

theorem LmAt.wide {W:World}{lo hi hi' m:Nat}{es:List (PlP × Value)}(h:LmAt W lo hi m es)(hh:hi<=hi'):LmAt W lo hi' m es:=
 ⟨h.map,h.low,YAC h.high hh,fun x hx=>⟨(h.rows x hx).1,fun k e=>YAC ((h.rows x hx).2 k e) hh⟩⟩

theorem LmAt.made (w:World):LmAt (w.alloc (.map #[] 0)) w.heap.size (w.heap.size+1) w.heap.size []:=
 ⟨YAE w _,YA _,Nat.lt_succ_self _,by simp⟩

theorem LmAt.look {W:World}{lo hi m:Nat}{es:List (PlP × Value)}(h:LmAt W lo hi m es)(t:Bool)(z:Int):
  ∃ a n c,(Instr.lookup 43 (.map (some m)) (.agg #[.bool t,.int .i64 z]) false).run Tryz.prog W=.ok (.slice a n c) W/\(idxZ (ZbB es) t z = -1/\n=0\/0<=idxZ (ZbB es) t z/\n=1):=by
 have h1:=Zey W m (Zbv 0 es).toArray es.length (ksOf es) t z h.map (Zdu 0 es);unfold kV at h1;rw [h1];rcases Zb4 (ZbB es) t z with hk | ⟨k,x,hk,hx,_⟩
 ·rw [ZdM hk];exact⟨none,0,0,rfl,.inl ⟨hk,rfl⟩⟩
 ·have e1:Zbe (ksOf es) t z=some k:=by
   rw [ZfP];unfold idxZ at hk;cases e:(ZbB es).findIdx? (isLn t z) with
   | none=>rw [e] at hk;simp at hk
   | some i=>rw [e] at hk;simp only [] at hk;have e9:i=k:=(by omega);rw [e9]
  have hkl:k<es.length:=by have:=(YAD.1 hx).1;simpa [ZbB] using this
  obtain⟨y,hy⟩:∃ y,es[k]? = some y:=⟨es[k],YAA hkl⟩;have hr:=(h.rows y (YAF hy)).1;obtain⟨a,c,hv⟩:=Zac hr;rw [e1];simp only [Option.bind_some,List.toList_toArray,Zdt,hy,Option.map_some,hv];exact⟨a,1,c,rfl,.inr ⟨by omega,rfl⟩⟩

set_option maxRecDepth 100000 in
set_option maxHeartbeats 2000000 in
theorem ZfW (lo m:Nat)(es:List (PlP × Value))(t:Bool)(z:Int)(w:World)(h:LmAt w lo w.heap.size m es):
  Calls Tryz.prog 26 #[.map (some m),kV t z] w fun e w'=>e=.returned (.bool (decide (0<=idxZ (ZbB es) t z)))/\Below w.heap.size w w':=by
 have hb:=(YAB w.heap.size w).alloc (YA _) (.cells #[.bool t,.int .i64 z] 46);obtain⟨a,n,c,hl,hn⟩:=(h.below hb (YA _)).look t z;have HB:=hide hb;unfold kV;clear h hb;rcases hn with ⟨h1,rfl⟩ | ⟨h1,rfl⟩
 ·rw [YAo (show ¬0<=idxZ (ZbB es) t z by omega)];clear h1
  go_enter Tryz.func26,Tryz.ntmps26
  go_wp2;go_ret;exact⟨rfl,HB.out⟩
 ·rw [YAi h1];clear h1
  go_enter Tryz.func26,Tryz.ntmps26
  go_wp2;go_ret;exact⟨rfl,HB.out⟩

set_option maxRecDepth 100000 in
set_option maxHeartbeats 4000000 in
theorem Znu (lo m:Nat)(es:List (PlP × Value))(x:LnD)(hv:Value)(pl:Int)(w:World)(h:LmAt w lo w.heap.size m es)(hno:idxZ (ZbB es) x.thing x.to = -1):
  Calls Tryz.prog 18 #[.map (some m),.agg (lnC x hv),.int .i64 pl] w fun e w'=>e=.returned (.tuple #[])/\∃ v,LmAt w' lo w'.heap.size m (es++[((pl,(x,hv)),v)])/\w.grownBy w' (some m):=by
 have hb:=(YAB w.heap.size w).alloc (YA _) (.cells #[.bool x.thing,.int .i64 x.to,hv] 39);have hbox:=YAE w (.cells #[.bool x.thing,.int .i64 x.to,hv] 39);unfold lnC;have HL:=hide h;have HNO:=hide hno;clear h hno
 go_enter Tryz.func18,Tryz.ntmps18
 go_wp2_with fail
 obtain⟨W0,hW0⟩:∃ W0,W0=w.alloc (.cells #[.bool x.thing,.int .i64 x.to,hv] 39):=⟨_,rfl⟩;rw [<-hW0] at hb hbox |-;have c0:=Zaa hbox 0;have c1:=Zaa hbox 1;have c2:=Zaa hbox 2;simp at c0 c1 c2;have hl0:=Zab hbox;have hbs:=hb.size;have HL0:=hide ((HL.out.below hb (YA _)).wide hbs);refine (Zcs x hv W0).mono ?_;rintro e w1 ⟨rfl,b1⟩;have HL1:=hide ((HL0.out.below b1 (YA _)).wide b1.size)
 go_wp2_with fail
 refine (ZfW lo m es x.thing x.to w1 HL1.out).mono ?_;rintro e w2 ⟨rfl,b2⟩;rw [YAo (show ¬0<=idxZ (ZbB es) x.thing x.to by rw [HNO.out];omega)];have HL2:=hide ((HL1.out.below b2 (YA _)).wide b2.size);have hbox2:=(b2.block _ (by have:=b1.size;omega)).trans ((b1.block _ hl0).trans hbox);have bw2:Below w.heap.size w w2:=hb.trans ((b1.trans (b2.mono b1.size)).mono hbs);have HBX:=hide hbox2;have HM2:=hide HL2.out.map;have hw2s:=bw2.size;clear hb hbox c0 c1 c2 HL0 HL1 b1 b2 hbox2 hbs hl0 hW0 HL;go_wp2;refine wp_region_noPanic ?_;refine Zah (S:=fun _=>True) (by kernel_rfl) 8 rfl trivial (fun ops hops _=>?_);refine pm_dag w.heap.size m x hv pl (Zbv 0 es).toArray es.length (ksOf es) w2.drew _ ops hops (Zab HBX.out) (Zab HM2.out) (Zcs x hv) HBX.out HM2.out (Zdu 0 es) (ZdM HNO.out) ?_;intro W g1 g hg1 hlg;clear hops ops;have gs:=g.size;have gs2:w2.heap.size<=W.heap.size:=gs;have hmw:m<w2.heap.size:=Zab HM2.out;have hg1w:=Zab hg1;have hWm:W.heap[m]? = some (.map (Zbv 0 es).toArray es.length):=(g.block m hmw).trans HM2.out;have hmg:m≠g1:=fun e=>by have h9:w2.heap.size<=g1:=hlg;omega
 obtain⟨W9,hW9⟩:∃ W9,W9=setBlock W m (.map ((Zbv 0 es).toArray.push ⟨kV x.thing x.to,.slice (some ⟨g1,0,none⟩) 1 1,es.length⟩) (es.length+1)):=⟨_,rfl⟩;have hk9:∀ j,j≠m->W9.heap[j]? = W.heap[j]? := fun j hj=>by rw [hW9];exact Go.ChangeMaps.heap_setBlock_other hWm _ hj
 have hm9:W9.heap[m]? = some (.map ((Zbv 0 es).toArray.push ⟨kV x.thing x.to,.slice (some ⟨g1,0,none⟩) 1 1,es.length⟩) (es.length+1)):=by rw [hW9];exact Go.ChangeMaps.heap_setBlock_same hWm _
 have hs9:W9.heap.size=W.heap.size:=by rw [hW9];simp [setBlock]
 have hg9:W.grownBy W9 (some m):=⟨by rw [hW9];rfl,by rw [hW9];rfl,by rw [hW9];rfl,by omega,fun j _ hj=>hk9 j (fun e=>hj (by rw [e]))⟩;have FIN:LmAt W9 lo W9.heap.size m (es++[((pl,(x,hv)),.slice (some ⟨g1,0,none⟩) 1 1)]):=by
  refine⟨?_,HL2.out.low,by omega,?_⟩
  ·rw [hm9,ZeM,YAM];simp
  ·intro y hy;rcases YAH.1 hy with h1 | h1
   ·have hr:=HL2.out.rows y h1;refine⟨Zai hr.1 (fun k e=>?_),fun k e=>by have:=hr.2 k e;omega⟩;have hkw:=hr.2 k e;have hkm:k≠m:=fun e9=>by
     subst e9;rcases hr.1.2 with ⟨e1,_⟩ | ⟨g2,cap,cur,e1,_,hh,_⟩
     ·rw [e1] at e;cases e
     ·rw [e1] at e;simp [Value.ownBlock] at e;subst e;rw [HM2.out] at hh;cases hh
    rw [hk9 k hkm];exact g.block k hkw
   ·have:y=((pl,(x,hv)),.slice (some ⟨g1,0,none⟩) 1 1):=by simpa using h1
    subst this;have hg1':W9.heap[g1]? = some (.cells #[.int .i64 pl,.bool x.thing,.int .i64 x.to,hv] 68):=(hk9 g1 (fun e=>hmg e.symm)).trans hg1;have hlg2:w2.heap.size<=g1:=hlg;refine⟨⟨rfl,.inr ⟨g1,1,_,rfl,by have:=HL2.out.low;omega,hg1',YA _,by unfold maxLen;omega,rfl,rfl⟩⟩,fun k e=>?_⟩;simp [Value.ownBlock] at e;subst e;exact Zab hg1'
 have GRW:w.grownBy W9 (some m):=by
  have h1:w.grownBy w2 (some m):=⟨bw2.os,bw2.tape,bw2.output,bw2.size,fun j hj _=>bw2.block j hj⟩;have h2:w2.grownBy W (some m):=⟨g.os,g.tape,g.output,g.size,fun j hj _=>g.block j hj⟩;exact Zaq (Zaq h1 h2) hg9
 rw [<-hW9];clear hW9;go_wp2
 go_returns
 exact⟨rfl,_,FIN,GRW⟩
end Go.Proofs.YtdhnddfnckgbjaaGreat
namespace Go.Proofs.YtdhnddfnckgbjaaGreat
open Go.RowKit
set_option linter.unusedSimpArgs false
set_option linter.unusedVariables false
set_option maxRecDepth 100000
set_option maxHeartbeats 8000000
variable {x:LnD}
theorem ZfV {xs:List LnD}(h:ZaP xs)(hx:x∈xs):∃ k:Nat,idxZ xs x.thing x.to=(k:Int)/\xs[k]? = some x:=by
 rcases Zb4 xs x.thing x.to with h1 | ⟨k,y,h1,h2,h3⟩
 ·exfalso;unfold idxZ at h1;cases e:xs.findIdx? (isLn x.thing x.to) with
  | some i=>rw [e] at h1;simp only [] at h1;omega
  | none=>
   rw [List.findIdx?_eq_none_iff] at e;have:=e x hx;simp [isLn] at this
 ·have:x=y:=h.one hx (YAF h2) (by simpa [isLn,keyB] using h3);subst this;exact⟨k,h1,h2⟩
theorem Zi7 {xs:List LnD}(h:hasK xs x=false):idxZ xs x.thing x.to = -1:=by
 rcases Zb4 xs x.thing x.to with h1 | ⟨k,y,h1,h2,h3⟩
 ·exact h1
 ·exfalso;have:=Zd3.1 h y (YAF h2);simp only [isLn,YAO,beq_iff_eq] at h3;simp [keyB,h3.1,h3.2] at this
theorem ZeR {ps:List JP}{k:Nat}(h:(Zag ps)[k]? = some x):∃ p,ps[k]? = some p/\p.1=x:=by
 unfold Zag at h;rw [YAZ] at h;cases e:ps[k]? with
 | none=>rw [e] at h;simp at h
 | some p=>rw [e] at h;simp at h;exact⟨p,rfl,h⟩
theorem Zg5 (v1 v2:Value)(ps qs:List JP)(w:World)(h1:Zb8 w v1 ps w.heap.size)(h2:Zb8 w v2 qs w.heap.size)(hk1:ZaP (Zag ps))(hk2:ZaP (Zag qs))(hp:(Zag ps).Perm (Zag qs))(hn:totJ ps<=1048576)(hm:totJ qs<=1048576):
  Calls Tryz.prog 9 #[v1,v2] w fun e w'=>e=.returned (.bool true)/\Below w.heap.size w w':=by
 have hln:=Zbj ps;have hlm:=Zbj qs;have hlen:ps.length=qs.length:=by have:=hp.length_eq;simpa [Zag] using this
 obtain⟨a1,c1,rfl⟩:=h1.shape;obtain⟨a2,c2,rfl⟩:=h2.shape;rw [<-hlen] at h2 |-;have H1:=hide h1;have H2:=hide h2;have HL:=hide hlen;have HK1:=hide (show ∀ x∈Zag ps,∃ k:Nat,idxZ (Zag qs) x.thing x.to=(k:Int)/\(Zag qs)[k]? = some x from fun x hx=>ZfV hk2 (hp.mem_iff.1 hx));have HK2:=hide (show ∀ x∈Zag qs,∃ k:Nat,idxZ (Zag ps) x.thing x.to=(k:Int)/\(Zag ps)[k]? = some x from fun x hx=>ZfV hk1 (hp.mem_iff.2 hx));clear h1 h2 hlen hk1 hk2 hp
 go_enter Tryz.func9,Tryz.ntmps9
 go_wp2
 go_loopw [5] (fun i wr=>∃ k:Nat,k<=ps.length/\i=.int .i64 k/\Below w.heap.size w wr) (fun i _=>ps.length-(intOf i).toNat)
 case atStart=>exact ⟨0,by omega,rfl,YAB _ _⟩
 case round=>
  obtain⟨k,hk,rfl,hnx⟩:=hrel;have hsz:=hnx.size;by_cases hlt:k<ps.length
  ·obtain ⟨p,hp⟩:∃ p,ps[k]? = some p:=⟨ps[k],YAA hlt⟩;obtain⟨q,hq⟩:∃ q,qs[k]? = some q:=⟨qs[k]'(by have:=HL.out;omega),YAA (by have:=HL.out;omega)⟩;obtain⟨b,off,cp,hve,hbb,c0,c1',c2',hh⟩:=H1.out.cells k p hp;obtain⟨rfl,rfl⟩:a1=some ⟨b,off,none⟩/\c1=cp:=by cases hve;exact⟨rfl,rfl⟩
   clear hve;obtain⟨b9,off9,cp9,hve,hbb9,e0,e1,e2,hh9⟩:=H2.out.cells k q hq;rw [<-HL.out] at hve;obtain⟨rfl,rfl⟩:a2=some ⟨b9,off9,none⟩/\c2=cp9:=by cases hve;exact⟨rfl,rfl⟩
   clear hve;obtain⟨u1,u2,hpe⟩:=Zal.shape hh;obtain⟨u3,u4,hqe⟩:=Zal.shape hh9;rw [hpe] at c2';rw [hqe] at e2;obtain⟨kk,k1,k2⟩:=HK1.out p.1 (YAF (Zc7 hp));obtain⟨jj,j1,j2⟩:=HK2.out q.1 (YAF (Zc7 hq));obtain⟨p',hp',ep⟩:=ZeR k2;obtain⟨q',hq',eq⟩:=ZeR j2;have hkl:kk<qs.length:=(YAD.1 hp').1;have hjl:jj<ps.length:=(YAD.1 hq').1;obtain⟨b8,off8,cp8,hve,_,_,_,d2,hd⟩:=H2.out.cells kk p' hp';rw [<-HL.out] at hve;obtain⟨eb8,eo8⟩:b8=b9/\off8=off9:=by cases hve;exact⟨rfl,rfl⟩
   rw [eb8,eo8] at d2;clear hve eb8 eo8;obtain⟨b7,off7,cp7,hve,_,_,_,f2,hf⟩:=H1.out.cells jj q' hq';obtain⟨eb7,eo7⟩:b7=b/\off7=off:=by cases hve;exact⟨rfl,rfl⟩
   rw [eb7,eo7] at f2;clear hve eb7 eo7;obtain⟨u5,u6,hde⟩:=Zal.shape hd;obtain⟨u7,u8,hfe⟩:=Zal.shape hf;rw [hde] at d2 hd;rw [hfe] at f2 hf;rw [hpe] at hh;rw [hqe] at hh9;rw [ep] at d2 hd;rw [eq] at f2 hf;have A1:=hide (fun W (hb:Below w.heap.size w W)=>Zdz (.slice (some ⟨b9,off9,none⟩) ps.length c2) qs p.1 (.slice u1 p.1.hops.length u2) W (H2.out.then hb) (by omega));have A2:=hide (fun W (hb:Below w.heap.size w W)=>Zdz (.slice (some ⟨b,off,none⟩) ps.length c1) ps q.1 (.slice u3 q.1.hops.length u4) W (H1.out.then hb) (by omega));have S1:=hide (fun W (hb:Below w.heap.size w W)=>Ze3 (.slice u1 p.1.hops.length u2) (.slice u5 p.1.hops.length u6) p.1.hops p.1.hops W (Zal.then hh hb).ints (Zal.then hd hb).ints (by have:=ZbO (YAF hp);omega));have S2:=hide (fun W (hb:Below w.heap.size w W)=>Ze3 (.slice u7 q.1.hops.length u8) (.slice u3 q.1.hops.length u4) q.1.hops q.1.hops W (Zal.then hf hb).ints (Zal.then hh9 hb).ints (by have:=ZbO (YAF hq);omega));rw [k1] at A1;rw [j1] at A2;rw [YAi rfl] at S1 S2;unfold lnC at A1 A2;have D2:=hide d2;have F2:=hide f2;have C2:=hide c2';have E2:=hide e2;replace c0:=(hnx.cell hbb).trans c0;rw [<-hnx.cell (p:=⟨b,off+k*3+1,none⟩) hbb] at c1';rw [<-hnx.cell (p:=⟨b,off+k*3+2,none⟩) hbb] at c2';have hki:(0:Int)<=(k:Int):=by omega
   have hkj:(k:Int)<(ps.length:Int):=by omega
   have hb1:b<w.heap.size:=hbb;have hb9:b9<w.heap.size:=hbb9;have E0:=hide e0;have E1:=hide e1;clear hp hq hp' hq' k1 k2 j1 j2 ep eq d2 f2 e0 e1 e2 hh hh9 hd hf hpe hqe hde hfe
   go_wp2_with fail
   refine (A1.out _ hnx).mono ?_;rintro e w1 ⟨rfl,b1⟩;have s1:=b1.size;have B1:Below w.heap.size w w1:=hnx.trans (b1.mono hsz);have e0:=(B1.cell (p:=⟨b9,off9+k*3,none⟩) hb9).trans E0.out;have e1:=(B1.cell (p:=⟨b9,off9+k*3+1,none⟩) hb9).trans E1.out;have e2:=(B1.cell (p:=⟨b9,off9+k*3+2,none⟩) hb9).trans E2.out;clear c0 c1' c2' b1
   go_wp2_with fail
   refine (A2.out _ B1).mono ?_;rintro e w2 ⟨rfl,b2⟩;have s2:=b2.size;have B2:Below w.heap.size w w2:=B1.trans (b2.mono B1.size);have c2':=(B2.cell (p:=⟨b,off+k*3+2,none⟩) hb1).trans C2.out;have d2:=(B2.cell (p:=⟨b9,off9+kk*3+2,none⟩) hb9).trans D2.out;have hk0:(0:Int)<=(kk:Int):=by omega
   have hk9:(kk:Int)<(ps.length:Int):=by have:=HL.out;omega
   have hj0:(0:Int)<=(jj:Int):=by omega
   have hj9:(jj:Int)<(ps.length:Int):=by omega
   have hz1:¬(kk:Int)<0:=by omega
   have hz2:¬(jj:Int)<0:=by omega
   clear e0 e1 e2 b2;have f2:=(B2.cell (p:=⟨b,off+jj*3+2,none⟩) hb1).trans F2.out;have e2:=(B2.cell (p:=⟨b9,off9+k*3+2,none⟩) hb9).trans E2.out;have B2D:=hide B2.drew;go_wp2;refine wp_region_noPanic ?_;refine Zah (S:=(fun W=>W.cell? ⟨b,off+k*3+2,none⟩=some (.slice u1 p.1.hops.length u2)/\W.cell? ⟨b9,off9+kk*3+2,none⟩=some (.slice u5 p.1.hops.length u6)/\W.cell? ⟨b,off+jj*3+2,none⟩=some (.slice u7 q.1.hops.length u8)/\W.cell? ⟨b9,off9+k*3+2,none⟩=some (.slice u3 q.1.hops.length u4))) (by kernel_rfl) 34 rfl ⟨c2',d2,f2,e2⟩ (fun ops hops HSW=>?_)
   iterate 17
    refine Zmq 34 ?_ ?_ ?_ (by rw [hops.out];kernel_rfl) ?_ ?_ (by assumption) ?_
    rotate_left 2
    ·rw [hops.out];simp only [getS,Nat.reduceSub,Nat.reduceAdd];rfl
    ·intro W hW;obtain⟨m1,m2,m3,m4⟩:=hW;go_simp <;> with_reducible rfl
    ·exact fun _ _ _=>id
    try simp only [putS]
   refine TC 17 ?_;intro K hK;go_simp;refine (S1.out _ B2D.out).mono ?_;rintro e w3 ⟨rfl,b3⟩;refine hK.out _ _ ⟨(b3.cell (p:=⟨b,off+k*3+2,none⟩) (YAC hb1 (B2D.out).size)).trans HSW.1,(b3.cell (p:=⟨b9,off9+kk*3+2,none⟩) (YAC hb9 (B2D.out).size)).trans HSW.2.1,(b3.cell (p:=⟨b,off+jj*3+2,none⟩) (YAC hb1 (B2D.out).size)).trans HSW.2.2.1,(b3.cell (p:=⟨b9,off9+k*3+2,none⟩) (YAC hb9 (B2D.out).size)).trans HSW.2.2.2⟩ (fun HSW=>?_);clear hK
   try simp only [putS]
   have B3:=B2D.out.trans (b3.mono B2D.out.size);refine Zax 18 ?_ ?_ ?_ (by rw [hops.out];kernel_rfl) ?_ ?_ (by assumption) ?_
   rotate_left 2
   ·rw [hops.out];simp only [getS];rfl
   ·intro W hW;obtain⟨m1,m2,m3,m4⟩:=hW;go_simp <;> with_reducible rfl
   ·exact fun _ _ _=>id
   try simp only [putS]
   refine Zax 19 ?_ ?_ ?_ (by rw [hops.out];kernel_rfl) ?_ ?_ (by assumption) ?_
   rotate_left 2
   ·rw [hops.out];simp only [getS];rfl
   ·intro W hW;obtain⟨m1,m2,m3,m4⟩:=hW;go_simp <;> with_reducible rfl
   ·exact fun _ _ _=>id
   try simp only [putS]
   refine Zax 20 ?_ ?_ ?_ (by rw [hops.out];kernel_rfl) ?_ ?_ (by assumption) ?_
   rotate_left 2
   ·rw [hops.out];simp only [getS];rfl
   ·intro W hW;obtain⟨m1,m2,m3,m4⟩:=hW;go_simp <;> with_reducible rfl
   ·exact fun _ _ _=>id
   try simp only [putS]
   refine Zax 21 ?_ ?_ ?_ (by rw [hops.out];kernel_rfl) ?_ ?_ (by assumption) ?_
   rotate_left 2
   ·rw [hops.out];simp only [getS];rfl
   ·intro W hW;obtain⟨m1,m2,m3,m4⟩:=hW;go_simp <;> with_reducible rfl
   ·exact fun _ _ _=>id
   try simp only [putS]
   refine Zax 22 ?_ ?_ ?_ (by rw [hops.out];kernel_rfl) ?_ ?_ (by assumption) ?_
   rotate_left 2
   ·rw [hops.out];simp only [getS];rfl
   ·intro W hW;obtain⟨m1,m2,m3,m4⟩:=hW;go_simp <;> with_reducible rfl
   ·exact fun _ _ _=>id
   try simp only [putS]
   refine Zax 23 ?_ ?_ ?_ (by rw [hops.out];kernel_rfl) ?_ ?_ (by assumption) ?_
   rotate_left 2
   ·rw [hops.out];simp only [getS];rfl
   ·intro W hW;obtain⟨m1,m2,m3,m4⟩:=hW;go_simp <;> with_reducible rfl
   ·exact fun _ _ _=>id
   try simp only [putS]
   refine Zax 24 ?_ ?_ ?_ (by rw [hops.out];kernel_rfl) ?_ ?_ (by assumption) ?_
   rotate_left 2
   ·rw [hops.out];simp only [getS];rfl
   ·intro W hW;obtain⟨m1,m2,m3,m4⟩:=hW;go_simp <;> with_reducible rfl
   ·exact fun _ _ _=>id
   try simp only [putS]
   refine Zax 25 ?_ ?_ ?_ (by rw [hops.out];kernel_rfl) ?_ ?_ (by assumption) ?_
   rotate_left 2
   ·rw [hops.out];simp only [getS];rfl
   ·intro W hW;obtain⟨m1,m2,m3,m4⟩:=hW;go_simp <;> with_reducible rfl
   ·exact fun _ _ _=>id
   try simp only [putS]
   refine Zax 26 ?_ ?_ ?_ (by rw [hops.out];kernel_rfl) ?_ ?_ (by assumption) ?_
   rotate_left 2
   ·rw [hops.out];simp only [getS];rfl
   ·intro W hW;obtain⟨m1,m2,m3,m4⟩:=hW;go_simp <;> with_reducible rfl
   ·exact fun _ _ _=>id
   try simp only [putS]
   refine Zax 27 ?_ ?_ ?_ (by rw [hops.out];kernel_rfl) ?_ ?_ (by assumption) ?_
   rotate_left 2
   ·rw [hops.out];simp only [getS];rfl
   ·intro W hW;obtain⟨m1,m2,m3,m4⟩:=hW;go_simp <;> with_reducible rfl
   ·exact fun _ _ _=>id
   try simp only [putS]
   refine Zax 28 ?_ ?_ ?_ (by rw [hops.out];kernel_rfl) ?_ ?_ (by assumption) ?_
   rotate_left 2
   ·rw [hops.out];simp only [getS];rfl
   ·intro W hW;obtain⟨m1,m2,m3,m4⟩:=hW;go_simp <;> with_reducible rfl
   ·exact fun _ _ _=>id
   try simp only [putS]
   refine Zax 29 ?_ ?_ ?_ (by rw [hops.out];kernel_rfl) ?_ ?_ (by assumption) ?_
   rotate_left 2
   ·rw [hops.out];simp only [getS];rfl
   ·intro W hW;obtain⟨m1,m2,m3,m4⟩:=hW;go_simp <;> with_reducible rfl
   ·exact fun _ _ _=>id
   try simp only [putS]
   refine Zax 30 ?_ ?_ ?_ (by rw [hops.out];kernel_rfl) ?_ ?_ (by assumption) ?_
   rotate_left 2
   ·rw [hops.out];simp only [getS];rfl
   ·intro W hW;obtain⟨m1,m2,m3,m4⟩:=hW;go_simp <;> with_reducible rfl
   ·exact fun _ _ _=>id
   try simp only [putS]
   refine TC 31 ?_;intro K hK;go_simp;refine (S2.out _ B3).mono ?_;rintro e w4 ⟨rfl,b4⟩;refine hK.out _ _ ⟨(b4.cell (p:=⟨b,off+k*3+2,none⟩) (YAC hb1 (B3).size)).trans HSW.1,(b4.cell (p:=⟨b9,off9+kk*3+2,none⟩) (YAC hb9 (B3).size)).trans HSW.2.1,(b4.cell (p:=⟨b,off+jj*3+2,none⟩) (YAC hb1 (B3).size)).trans HSW.2.2.1,(b4.cell (p:=⟨b9,off9+k*3+2,none⟩) (YAC hb9 (B3).size)).trans HSW.2.2.2⟩ (fun HSW=>?_);clear hK
   try simp only [putS]
   refine Zax 32 ?_ ?_ ?_ (by rw [hops.out];kernel_rfl) ?_ ?_ (by assumption) ?_
   rotate_left 2
   ·rw [hops.out];simp only [getS];rfl
   ·intro W hW;obtain⟨m1,m2,m3,m4⟩:=hW;go_simp <;> with_reducible rfl
   ·exact fun _ _ _=>id
   try simp only [putS]
   refine Zax 33 ?_ ?_ ?_ (by rw [hops.out];kernel_rfl) ?_ ?_ (by assumption) ?_
   rotate_left 2
   ·rw [hops.out];simp only [getS];rfl
   ·intro W hW;obtain⟨m1,m2,m3,m4⟩:=hW;go_simp <;> with_reducible rfl
   ·exact fun _ _ _=>id
   try simp only [putS]
   have B4:=hide (B3.trans (b4.mono B3.size));refine wpAnyH_done (by rw [hops.out];kernel_rfl) (NoPanic.normal ?_) _;clear hops ops HSW;go_wp2;go_roundw
   case rel=>exact ⟨k+1,by omega,by go_num,B4.out⟩
   case measure=>simp [intOf];omega
  ·have hlt':¬(k:Int)<(ps.length:Int):=by omega
   go_wp2;go_ret;exact⟨rfl,hnx⟩
end Go.Proofs.YtdhnddfnckgbjaaGreat
