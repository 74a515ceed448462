/-
  AddW RowA LinksS WSt
-/
import Derived.Test.YtcimbiinljcifaaGreatLn13
import Derived.Test.YtcimbiinljcifaaGreatLn7
import Derived.Test.YtcimbiinljcifaaGreatLn1
import Derived.Deep.OwnRows
import Derived.Test.YtcimbiinljcifaaGreatLn22
import Derived.Test.YtcimbiinljcifaaGreatLn17
namespace Go.Proofs.YtcimbiinljcifaaGreat
open Go.RowKit
set_option linter.unusedSimpArgs false
set_option linter.unusedVariables false
set_option maxRecDepth 100000
set_option maxHeartbeats 8000000
theorem ZlK {l:List Int}{k:Nat}{z y:Int}(h:l[k]? = some y)(hn:z ∉ l.take k)(hz:z≠y):z ∉ l.take (k+1):=by
 obtain⟨hk,e⟩:=List.getElem?_eq_some_iff.1 h;rw [List.take_succ_eq_append_getElem hk,e];simp [hn,hz]
theorem Zkw (v:Value)(l:List Int)(z:Int)(w:World)(hn:l.length<=1048576)(hv:Za9 w v l w.heap.size):
  Calls Tryz.prog 153 #[v,.int .i64 z] w fun e w'=>e=.returned (.bool (decide (z∈l)))/\Below w.heap.size w w':=by
 obtain⟨R,hR⟩:∃ R,R=decide (z∈l):=⟨_,rfl⟩;rw [<-hR];have HR:=hide hR;clear hR;obtain⟨a,cap,rfl⟩:=hv.shape;have HV:=hide hv;clear hv
 go_enter Tryz.func153,Tryz.ntmps153
 go_wp2
 go_loopw [5] (fun i wr=>∃ k:Nat,k<=l.length/\i=.int .i64 k/\Hid (z ∉ l.take k)/\Below w.heap.size w wr) (fun i _=>l.length-(intOf i).toNat)
 case atStart=>exact ⟨0,by omega,rfl,hide (by simp),Below.refl _ _⟩
 case round=>
  obtain⟨k,hk,rfl,HNO,hnx⟩:=hrel;by_cases hlt:k<l.length
  ·obtain ⟨y,hy⟩:∃ y,l[k]? = some y:=⟨l[k],List.getElem?_eq_getElem hlt⟩
   obtain⟨b,off,cap',hve,hbb,c0⟩:=HV.out.cell k y hy;cases hve
   rw [<-hnx.cell (p:=⟨b,off+k,none⟩) hbb] at c0;have hki:(0:Int)<=(k:Int):=by omega
   have hkj:(k:Int)<(l.length:Int):=by omega
   by_cases hzy:z=y
   ·subst hzy
    have HF:=hide (show R=true by rw [HR.out];exact decide_eq_true (List.mem_of_getElem? hy))
    clear hy
    go_wp2
    (try go_quiet (fail))
    (try go_wp2)
    go_ret
    exact⟨Zaf HF.out,by first | exact hnx | exact hnx.trans ⟨rfl,rfl,rfl,Nat.le_refl _,fun _ _=>rfl⟩⟩
   ·have HN:=hide (ZlK hy HNO.out hzy)
    have hyz:¬y=z:=fun e=>hzy e.symm
    have hd:(y==z)=false:=by simpa using hyz
    clear hy
    go_wp2
    (try go_quiet (fail))
    (try go_wp2)
    go_roundw
    case rel=>exact ⟨k+1,by omega,by go_num,HN,by first | exact hnx | exact hnx.trans ⟨rfl,rfl,rfl,Nat.le_refl _,fun _ _=>rfl⟩⟩
    case measure=>simp [intOf];omega
  ·have HF:=hide (show R=false by
    rw [HR.out];have h:=HNO.out;rw [List.take_of_length_le (by omega)] at h
    exact decide_eq_false h)
   go_wp2
   go_ret
   exact⟨Zaf HF.out,hnx⟩
def addT (a b:List Int):Nat->List Int
 | 0=>[]
 | k+1=>addT a b k++(if (k:Int)+1∈a\/(k:Int)+1∈b then [(k:Int)+1] else [])
def addL (a b:List Int):List Int:=addT a b 6
theorem Zgs (a b:List Int)(k:Nat):(addT a b k).length<=k:=by
 induction k with
 | zero=>simp [addT]
 | succ k ih=>
  unfold addT;rw [List.length_append]
  split <;> simp <;> omega
theorem Zc5 (v1 v2:Value)(xs ys:List Int)(w:World)(hx:xs.length<=1048576)(hy:ys.length<=1048576)(h1:Za9 w v1 xs w.heap.size)(h2:Za9 w v2 ys w.heap.size):
  Calls Tryz.prog 147 #[v1,v2] w fun e w'=>∃ x,e=.returned x/\w'.ownsRow w.heap.size 3 1 x (addL xs ys).length (flat intE (addL xs ys))/\Below w.heap.size w w':=by
 obtain⟨a1,c1,rfl⟩:=h1.shape;obtain⟨a2,c2,rfl⟩:=h2.shape;have HI1:=hide (fun z W (hb:Below w.heap.size w W)=>Zkw (.slice a1 xs.length c1) xs z W hx ((ZaT.later h1 hb (Nat.le_refl _)).more hb.size))
 have HI2:=hide (fun z W (hb:Below w.heap.size w W)=>Zkw (.slice a2 ys.length c2) ys z W hy ((ZaT.later h2 hb (Nat.le_refl _)).more hb.size))
 have O0:=hide (ZcC w w.heap.size w.heap.size rfl (Nat.le_refl _));have B0:Below w.heap.size w (w.alloc (.cells #[] 3)):=(Below.refl _ _).alloc (Nat.le_refl _) _;clear h1 h2
 go_enter Tryz.func147,Tryz.ntmps147
 go_wp2
 generalize w.alloc (.cells #[] 3)=w0 at *
 go_loopw [6,5] (fun i o wr=>∃ (k:Nat) (l:List Int) (u:Value),k<=6/\i=.int .i64 ((k:Int)+1)/\o=u/\Hid (l=addT xs ys k)/\wr.ownsRow w.heap.size 3 1 u l.length (flat intE l)/\Below w.heap.size w wr) (fun i _ _=>8-(intOf i).toNat)
 case atStart=>exact ⟨0,[],_,by omega,rfl,rfl,hide rfl,O0.out,B0⟩
 case round=>
  obtain⟨k,l,u,hk,rfl,rfl,HL,hown,hnx⟩:=hrel;obtain⟨ua,uc,rfl⟩:=Zac hown;have hsz:=hnx.size;have hll:l.length<=6:=by rw [HL.out];have:=Zgs xs ys k;omega
  have OW:=hide hown;clear hown;by_cases hlt:k<6
  ·have hk6:(k:Int)+1<=6:=by omega
   have hw1:IntKind.i64.wrap ((k:Int)+1+1)=((k+1:Nat):Int)+1:=by rw [ZaD _ (by omega) (by omega)];omega
   obtain⟨P,hP⟩:∃ P,P=decide ((k:Int)+1∈xs):=⟨_,rfl⟩;obtain⟨Q,hQ⟩:∃ Q,Q=decide ((k:Int)+1∈ys):=⟨_,rfl⟩;have H1:=HI1.out ((k:Int)+1);have H2:=HI2.out ((k:Int)+1);rw [<-hP] at H1;rw [<-hQ] at H2;have J1:=hide H1;have J2:=hide H2;have HST:=hide (show addT xs ys (k+1)=l++(if P=true\/Q=true then [(k:Int)+1] else []) by
    rw [HL.out,hP,hQ];simp [addT])
   clear H1 H2 hP hQ HI1 HI2;cases P
   ·go_wp2_with fail
    refine (J1.out _ hnx).mono ?_
    rintro e w2 ⟨rfl,b2⟩;have b2s:=b2.size
    go_wp2_with fail
    refine (J2.out _ (hnx.trans (b2.mono hsz))).mono ?_
    rintro e w3 ⟨rfl,b3⟩;have b3s:=b3.size;have B3:Below wr.heap.size wr w3:=b2.trans (b3.mono b2s);clear b2 b3;cases Q
    ·have HN:=hide (show l=addT xs ys (k+1) by rw [HST.out];simp)
     have OW3:=hide (Zah OW.out B3 (Nat.le_refl _))
     go_wp2
     go_roundw
     case rel=>exact ⟨k+1,l,_,by omega,rfl,rfl,HN,OW3.out,hnx.trans (B3.mono hsz)⟩
     case measure=>simp [intOf];omega
    ·have HN:=hide (show l++[(k:Int)+1]=addT xs ys (k+1) by rw [HST.out];simp)
     go_wp2_with (first
      | (at_builtin;refine ZaN ZdY (by omega) (by omega) _ rfl _ _ 28 rfl w.heap.size 3 Tryz.underlying28 (.int .i64 0) rfl Tryz.info3 _ l ((k:Int)+1) (Zc0 _) rfl ((Zah OW.out B3 (Nat.le_refl _)).alloc _) ⟨w3.heap.size,0,none⟩ 1 rfl (Zar (cs:=intE ((k:Int)+1))) (by omega) (by simp;omega) ?_))
     intro v' w4 hown' hgrow;obtain⟨va,vc,rfl⟩:=Zac hown';have B4:Below w.heap.size w w4:=((hnx.trans (B3.mono hsz)).alloc (by omega) _).grown hgrow (by simp;omega) (fun j hj=>(OW.out.lt j hj).1)
     have OW4:=hide hown';clear hown' hgrow
     go_wp2
     go_roundw
     case rel=>exact ⟨k+1,l++[(k:Int)+1],_,by omega,rfl,rfl,HN,(by simpa using OW4.out),B4⟩
     case measure=>simp [intOf];omega
   ·have HN:=hide (show l++[(k:Int)+1]=addT xs ys (k+1) by rw [HST.out];simp)
    go_wp2_with fail
    refine (J1.out _ hnx).mono ?_
    rintro e w3 ⟨rfl,B3⟩;have b3s:=B3.size
    go_wp2_with (first
     | (at_builtin;refine ZaN ZdY (by omega) (by omega) _ rfl _ _ 28 rfl w.heap.size 3 Tryz.underlying28 (.int .i64 0) rfl Tryz.info3 _ l ((k:Int)+1) (Zc0 _) rfl ((Zah OW.out B3 (Nat.le_refl _)).alloc _) ⟨w3.heap.size,0,none⟩ 1 rfl (Zar (cs:=intE ((k:Int)+1))) (by omega) (by simp;omega) ?_))
    intro v' w4 hown' hgrow;obtain⟨va,vc,rfl⟩:=Zac hown';have B4:Below w.heap.size w w4:=((hnx.trans (B3.mono hsz)).alloc (by omega) _).grown hgrow (by simp;omega) (fun j hj=>(OW.out.lt j hj).1)
    have OW4:=hide hown';clear hown' hgrow
    go_wp2
    go_roundw
    case rel=>exact ⟨k+1,l++[(k:Int)+1],_,by omega,rfl,rfl,HN,(by simpa using OW4.out),B4⟩
    case measure=>simp [intOf];omega
  ·have hk6:¬(k:Int)+1<=6:=by omega
   have KN:=hide (show l=addL xs ys by rw [HL.out,show k=6 by omega];rfl)
   go_wp2
   go_ret
   have h:=OW.out;rw [KN.out] at h;exact⟨_,by rw [KN.out];rfl,h,hnx⟩
def rowA (f:Nat->Value)(n:Nat):Array Value:=((List.range n).map f).toArray
theorem Zmp {f:Nat->Value}{n i:Nat}(h:i<n):(rowA f n)[i]? = some (f i):=by
 simp [rowA,h]
theorem ZlE (f:Nat->Value)(n i:Nat)(x:Value):(rowA f n).setIfInBounds i x=rowA (fun j=>if j=i then x else f j) n:=by
 apply Array.ext
 ·simp [rowA]
 ·intro j h1 h2
  have hj:j<n:=by simpa [rowA] using h2
  simp [rowA]
  by_cases e:i=j
  ·subst e;simp
  ·have e':¬j=i:=fun h=>e h.symm
   simp [e,e']
theorem ZcN {f g:Nat->Value}{n:Nat}(h:∀ i,i<n->f i=g i):rowA f n=rowA g n:=by
 unfold rowA
 congr 1
 apply List.map_congr_left
 intro i hi;exact h i (List.mem_range.1 hi)
theorem Zd7 {W:World}{b n i:Nat}{f:Nat->Value}{t:TypeId}(h:W.heap[b]? = some (.cells (rowA f n) t))(hi:i<n):W.cell? ⟨b,i,none⟩=some (f i):=by
 have e:=Zaa h i;rw [Zmp hi] at e;exact e
theorem ZeU {W:World}{b n i:Nat}{f:Nat->Value}{t:TypeId}(h:W.heap[b]? = some (.cells (rowA f n) t))(x:Value):(W.setCell ⟨b,i,none⟩ x).heap[b]? = some (.cells (rowA (fun j=>if j=i then x else f j) n) t):=by
 have e:=heap_setCell_same W b i _ _ x h;rw [ZlE] at e;exact e
theorem Zkr (z:Value)(n:Nat):madeCells #[z] n=rowA (fun _=>z) n:=by
 apply Array.ext
 ·simp [rowA,madeCells]
 ·intro j h1 h2
  simp [rowA,madeCells,Nat.mod_one]
theorem ZbF {P:Program}(w:World){ops:Array Oper}{rest:List Oper}{o:Oper}{a:Act}{Q:Exit->Act->World->Prop}
  (hg:o.guard=none) (l c:Operand) (t:TypeId) (hop:o.op=Op.makeSlice t l c)
  (e:TypeId) (z:Value) (bytes:Nat) (ht:P.underlying t=some (.slice e)) (hinfo:(P.info? e).map (fun i=>(i.zero,i.size,i.bytes))=some (some z,1,bytes)) (hz1:z.cells=#[z])
  (n:Nat) (hl:a.eval l=.int .i64 (n:Int)) (hc:a.eval c=.int .i64 (n:Int)) (hbytes:bytes*n<=281474976710656) (h63:n<=9223372036854775807)
  (hK:wpList P ops Q rest (a.put o.dst (.slice (some ⟨w.heap.size,0,none⟩) n n)) (w.alloc (.cells (rowA (fun _=>z) n) e))):
  wpList P ops Q (o::rest) a w:=by
 obtain⟨i,hi,hzz⟩:=Option.map_eq_some_iff.1 hinfo;simp only [Prod.mk.injEq] at hzz
 obtain⟨hz,hs,hb⟩:=hzz;refine wpList_make_row w hg l c t hop e i z ht hi hz hs hz1 .i64 .i64 n hl hc (by rw [hb];exact hbytes) h63 ?_
 rw [Zkr];exact hK
def ZdC (ns:List Nr)(bk:Int->Int)(v:Nat):Nat->Int
 | 0=>0
 | k+1=>match ns[k]? with
  | some n=>if n.to=(v:Int)/\inB n.to 1 6=true/\0<bk n.to then n.c else ZdC ns bk v k
  | none=>ZdC ns bk v k
def Zlb (xs:List RecD)(area:Int)(u v:Nat):Int:=ZdC (Zds xs area u).near (fun b=>ZfC xs area b u) v (Zds xs area u).near.length
def ZfK (o:Nat->Nat->Int)(i:Nat):Value:=.int .i64 (o (i / 7) (i%7))
theorem ZiP {W:World}{g:Nat}{o:Nat->Nat->Int} (h:W.heap[g]? = some (.cells (rowA (ZfK o) 49) 3)) {a b:Nat} (ha:a<=6) (hb:b<=6):W.cell? ⟨g,a*7+b,none⟩=some (.int .i64 (o a b)):=by
 rw [Zd7 h (by omega)]
 unfold ZfK;rw [show (a*7+b) / 7=a by omega,show (a*7+b)%7=b by omega]
theorem Zkc {W:World}{g:Nat}{o:Nat->Nat->Int} (h:W.heap[g]? = some (.cells (rowA (ZfK o) 49) 3)) {a b:Nat} (hb:b<=6) (x:Int):
  (W.setCell ⟨g,a*7+b,none⟩ (.int .i64 x)).heap[g]? = some (.cells (rowA (ZfK (fun u v=>if u=a/\v=b then x else o u v)) 49) 3):=by
 rw [ZeU h,ZcN (fun i _=>?_)]
 unfold ZfK
 show (if i=a*7+b then Value.int .i64 x else .int .i64 (o (i / 7) (i%7)))=.int .i64 (if i / 7=a/\i%7=b then x else o (i / 7) (i%7))
 by_cases e:i=a*7+b
 ·rw [if_pos e,if_pos (by omega)]
 ·rw [if_neg e,if_neg (by omega)]
theorem Zel {ns:List Nr}{k:Nat}{n:Nr}(bk:Int->Int)(v:Nat)(h:ns[k]? = some n):ZdC ns bk v (k+1)=if n.to=(v:Int)/\inB n.to 1 6=true/\0<bk n.to then n.c else ZdC ns bk v k:=by
 show (match ns[k]? with
  | some n=>if n.to=(v:Int)/\inB n.to 1 6=true/\0<bk n.to then n.c else ZdC ns bk v k
  | none=>ZdC ns bk v k)=_
 rw [h]
theorem Ze8 {x a b:Int}:inB x a b=true↔a<=x/\x<=b:=by simp [inB]
def Zdo (xs:List RecD)(area:Int)(k j u v:Nat):Int:=if u<=k then Zlb xs area u v else if u=k+1 then ZdC (Zds xs area u).near (fun b=>ZfC xs area b u) v j else 0
def Zg3 (xs:List RecD)(area:Int)(k j:Nat)(o:Nat->Nat->Int):Prop:=∀ u v,1<=u->u<=6->1<=v->v<=6->o u v=Zdo xs area k j u v
theorem Zld {xs:List RecD}{area:Int}{k:Nat}{o:Nat->Nat->Int} (h:Zg3 xs area k (Zds xs area ((k+1:Nat):Int)).near.length o):Zg3 xs area (k+1) 0 o:=by
 intro u v h1 h2 h3 h4;rw [h u v h1 h2 h3 h4];unfold Zdo;by_cases e:u<=k
 ·rw [if_pos e,if_pos (by omega)]
 ·rw [if_neg e]
  by_cases e2:u=k+1
  ·rw [if_pos e2,if_pos (by omega)]
   subst e2
   rfl
  ·rw [if_neg e2,if_neg (by omega)]
   split
   ·rfl
   ·rfl
theorem ZiR {xs:List RecD}{area:Int}{k j:Nat}{o:Nat->Nat->Int}{n:Nr}(h:Zg3 xs area k j o) (hn:(Zds xs area ((k+1:Nat):Int)).near[j]? = some n) (hno:¬(inB n.to 1 6=true/\0<ZfC xs area n.to ((k+1:Nat):Int))):Zg3 xs area k (j+1) o:=by
 intro u v h1 h2 h3 h4;rw [h u v h1 h2 h3 h4];unfold Zdo;by_cases e:u<=k
 ·rw [if_pos e,if_pos e]
 ·rw [if_neg e,if_neg e]
  by_cases e2:u=k+1
  ·rw [if_pos e2,if_pos e2]
   subst e2;rw [Zel _ v hn,if_neg (fun hc=>hno hc.2)]
  ·rw [if_neg e2,if_neg e2]
theorem Zmk {xs:List RecD}{area:Int}{k j t:Nat}{o:Nat->Nat->Int}{n:Nr}(h:Zg3 xs area k j o) (hn:(Zds xs area ((k+1:Nat):Int)).near[j]? = some n) (hyes:inB n.to 1 6=true/\0<ZfC xs area n.to ((k+1:Nat):Int)) (ht:n.to=(t:Int)):Zg3 xs area k (j+1) (fun u v=>if u=k+1/\v=t then n.c else o u v):=by
 intro u v h1 h2 h3 h4;have hh:=h u v h1 h2 h3 h4;unfold Zdo at hh |-;by_cases e:u<=k
 ·rw [if_pos e] at hh |-
  show (if u=k+1/\v=t then n.c else o u v)=_
  rw [if_neg (by omega)]
  exact hh
 ·rw [if_neg e] at hh |-
  by_cases e2:u=k+1
  ·rw [if_pos e2] at hh |-
   subst e2;rw [Zel _ v hn]
   show (if k+1=k+1/\v=t then n.c else o (k+1) v)=_
   by_cases e3:v=t
   ·rw [if_pos ⟨rfl,e3⟩,if_pos ⟨by omega,hyes⟩]
   ·rw [if_neg (fun hc=>e3 hc.2),if_neg (fun hc=>by have:=hc.1;omega)]
    exact hh
  ·rw [if_neg e2] at hh |-
   show (if u=k+1/\v=t then n.c else o u v)=_
   rw [if_neg (fun hc=>e2 hc.1)]
   exact hh
theorem ZjF (v:Value)(ps:List RP)(hi:Nat)(area:Int)(w:World)(hv:RecsIn w hi v ps)(hhi:hi<=w.heap.size)(hn:tot ps<=1048576):
  Calls Tryz.prog 146 #[v,.int .i64 area] w fun e w'=>∃ o,e=.returned (.slice (some ⟨w.heap.size,0,none⟩) 49 49)/\w'.heap[w.heap.size]? = some (.cells (rowA (ZfK o) 49) 3)/\(∀ u v,1<=u->u<=6->1<=v->v<=6->o u v=Zlb (fsts ps) area u v)/\Below w.heap.size w w':=by
 obtain⟨a1,c1,rfl⟩:=Zac hv.row;have HN:=hide (fun node W (hb:Below w.heap.size w W)=>Zfy (.slice a1 ps.length c1) ps hi area node W (hv.below hb hhi) (Nat.le_trans hhi hb.size) hn)
 have HT:=hide (fun a b W (hb:Below w.heap.size w W)=>ZjI (.slice a1 ps.length c1) ps hi area a b W (hv.below hb hhi) (Nat.le_trans hhi hb.size) hn)
 clear hv;have g0:=heap_alloc_new w (.cells (rowA (fun _=>.int .i64 0) 49) 3)
 have B0:Below w.heap.size w (w.alloc (.cells (rowA (fun _=>.int .i64 0) 49) 3)):=(Below.refl _ _).alloc (Nat.le_refl _) _
 go_enter Tryz.func146,Tryz.ntmps146
 go_wp2_with (first | (at_make;refine ZbF _ rfl _ _ 28 rfl 3 (.int .i64 0) 8 Tryz.underlying28 Tryz.info3 rfl 49 rfl rfl (by omega) (by omega) ?_))
 generalize w.alloc (.cells (rowA (fun _=>.int .i64 0) 49) 3)=w0 at *
 go_wp2
 go_loopw [6] (fun i wr=>∃ (k:Nat) (o:Nat->Nat->Int),k<=6/\i=.int .i64 ((k:Int)+1)/\Hid (Zg3 (fsts ps) area k 0 o)/\wr.heap[w.heap.size]? = some (.cells (rowA (ZfK o) 49) 3)/\Below w.heap.size w wr) (fun i _=>8-(intOf i).toNat)
 case atStart=>exact ⟨0,fun _ _=>0,by omega,rfl,hide (fun u v h1 h2 h3 h4=>by unfold Zdo;rw [if_neg (by omega)];split <;> rfl),g0,B0⟩
 case round=>
  rename World=>wo
  obtain⟨k,o,hk,rfl,HO,hg,hnx⟩:=hrel;have hsz:=hnx.size;by_cases hlt:k<6
  ·have hk6:(k:Int)+1<=6:=by omega
   have hw1:IntKind.i64.wrap ((k:Int)+1+1)=((k+1:Nat):Int)+1:=by rw [ZaD _ (by omega) (by omega)];omega
   have J:=hide (HN.out ((k:Int)+1) wo hnx);obtain⟨D,hD⟩:∃ D,D=Zds (fsts ps) area ((k:Int)+1):=⟨_,rfl⟩;obtain⟨NB,hNB⟩:∃ b,b=Zjp (fsts ps) area ((k:Int)+1):=⟨_,rfl⟩;rw [<-hD, <-hNB] at J;have HD:=hide hD;clear hD hNB;unfold recC at J
   go_wp2_with fail
   refine J.out.mono ?_
   rintro e w1 ⟨u,rfl,hu,hul,b1⟩;obtain⟨ua,uc,rfl⟩:=ZaA.shape hu;have hx:=heap_alloc_new w1 (.cells #[.int .i64 D.area,.int .i64 D.kind,.int .i64 D.owner,.int .i64 D.key,.int .i64 D.seq,.slice ua D.near.length uc,.int .i64 D.cost,.bool D.far] 40);have BX:Below w1.heap.size w1 (w1.alloc (.cells #[.int .i64 D.area,.int .i64 D.kind,.int .i64 D.owner,.int .i64 D.key,.int .i64 D.seq,.slice ua D.near.length uc,.int .i64 D.cost,.bool D.far] 40)):=(Below.refl _ _).alloc (Nat.le_refl _) _;obtain⟨w2,hw2⟩:∃ W,W=w1.alloc (.cells #[.int .i64 D.area,.int .i64 D.kind,.int .i64 D.owner,.int .i64 D.key,.int .i64 D.seq,.slice ua D.near.length uc,.int .i64 D.cost,.bool D.far] 40):=⟨_,rfl⟩;rw [<-hw2] at hx BX;have B12:Below wo.heap.size wo w2:=b1.trans (BX.mono b1.size);have B2:Below w.heap.size w w2:=hnx.trans (B12.mono hsz);have HU:Hid (ZaA w2 (.slice ua D.near.length uc) D.near hi):=hide (ZaT.later hu BX (by have:=b1.size;omega))
   have hs2:=Zab hx;have hg2:=(B12.block _ (Zab hg)).trans hg;obtain⟨z,hz⟩:∃ z,z=w1.heap.size:=⟨_,rfl⟩;have HZ:=hide hz;have hzg:w.heap.size<z:=by have:=Zab hg;have:=b1.size;omega
   have HXX:=hide hx;have HG2:=hide hg2;clear hu hx hg hg2 BX b1 J
   go_wp2
   rw [<-hw2];rw [<-hz];rw [<-hz] at HXX hs2;clear hw2 hz
   go_loopw [9] (fun i wr=>∃ (j:Nat) (o:Nat->Nat->Int),j<=D.near.length/\i=.int .i64 (j:Int)/\Hid (Zg3 (fsts ps) area k j o)/\Hid (wr.heap[w.heap.size]? = some (.cells (rowA (ZfK o) 49) 3))/\wr.heap[z]? = some (.cells #[.int .i64 D.area,.int .i64 D.kind,.int .i64 D.owner,.int .i64 D.key,.int .i64 D.seq,.slice ua D.near.length uc,.int .i64 D.cost,.bool D.far] 40)/\Below w.heap.size w2 wr) (fun i _=>D.near.length-(intOf i).toNat)
   case atStart=>exact ⟨0,o,by omega,rfl,HO,HG2,HXX.out,Below.refl _ _⟩
   case round=>
    obtain⟨j,o,hj,rfl,HO,HG,hz,hnq⟩:=hrel;have BQ:Below w.heap.size w wr:=B2.trans hnq;have d5:=Zaa hz 5;simp at d5
    have HZZ:=hide hz;clear hz;by_cases hjl:j<D.near.length
    ·obtain ⟨n,hn⟩:∃ n,D.near[j]? = some n:=⟨D.near[j],List.getElem?_eq_getElem hjl⟩
     have hNq:=(ZaT.later HU.out hnq hhi);obtain⟨b,off,cp,hve,hbb,c0,c1⟩:=ZaA.cells hNq j n hn;cases hve
     have hji:(0:Int)<=(j:Int):=by omega
     have hjj:(j:Int)<(D.near.length:Int):=by omega
     have HNJ:=hide hn;clear hn hNq;by_cases hin:inB n.to 1 6=true
     ·obtain ⟨t,ht⟩:∃ t:Nat,n.to=(t:Int):=⟨n.to.toNat,by have:=Ze8.1 hin;omega⟩
      have ht6:=Ze8.1 hin;rw [ht] at ht6 c0;have hin':inB (t:Int) 1 6=true:=by rw [<-ht];exact hin
      by_cases hbk:0<ZfC (fsts ps) area (t:Int) ((k:Int)+1)
      ·have hTL:=hide (HT.out (t:Int) ((k:Int)+1) wr BQ)
       go_wp2_with fail
       refine (Zbo _ _ _ _).mono ?_
       rintro e w3 ⟨rfl,rfl⟩;rw [hin']
       go_wp2_with fail
       refine hTL.out.mono ?_
       rintro e w3 ⟨rfl,b3⟩;have hs3:=b3.size;have HMS:=hide (Zmk HO.out (by rw [<-show (k:Int)+1=((k+1:Nat):Int) by omega, <-HD.out];exact HNJ.out) (by rw [<-show (k:Int)+1=((k+1:Nat):Int) by omega,ht];exact⟨hin',hbk⟩) ht)
       have hg3:=(b3.block _ (Zab HG.out)).trans HG.out;have hz3:=(b3.block _ (Zab HZZ.out)).trans HZZ.out;have B3:Below w.heap.size w2 w3:=hnq.trans (b3.mono BQ.size);have hbq:b<wr.heap.size:=by have:=BQ.size;omega
       rw [<-b3.cell (p:=⟨b,off+j*2,none⟩) hbq] at c0;rw [<-b3.cell (p:=⟨b,off+j*2+1,none⟩) hbq] at c1;rw [<-b3.cell (p:=⟨z,5,none⟩) (Zab HZZ.out)] at d5;have dg:=ZiP hg3 (a:=k+1) (b:=t) (by omega) (by omega)
       have fg:=Zae hg3;have HP:=hide (Zkc hg3 (a:=k+1) (b:=t) (by omega) n.c)
       have HZP:=hide ((heap_setCell_other w3 ⟨w.heap.size,(k+1)*7+t,none⟩ z (.int .i64 n.c) (by show z≠w.heap.size;omega)).trans hz3)
       have BP:=hide (show Below w.heap.size w2 (w3.setCell ⟨w.heap.size,(k+1)*7+t,none⟩ (.int .i64 n.c)) from B3.setCell (p:=⟨w.heap.size,(k+1)*7+t,none⟩) (Nat.le_refl _) _)
       have hm1:IntKind.i64.wrap (((k:Int)+1)*7)=(((k+1)*7:Nat):Int):=by rw [ZaD _ (by omega) (by omega)];omega
       have hm2:IntKind.i64.wrap ((((k+1)*7:Nat):Int)+(t:Int))=(((k+1)*7+t:Nat):Int):=by rw [ZaD _ (by omega) (by omega)];omega
       have hm3:(0:Int)<=(((k+1)*7+t:Nat):Int):=by omega
       have hm4:(((k+1)*7+t:Nat):Int)<49:=by omega
       clear hg3 hz3 hTL HO HG HZZ HU HXX HG2 HN HT
       go_wp2
       go_region
       go_wp2
       go_roundw
       case rel=>exact ⟨j+1,_,by omega,by go_num,HMS,HP,HZP.out,BP.out.trans ⟨rfl,rfl,rfl,Nat.le_refl _,fun _ _=>rfl⟩⟩
       case measure=>simp [intOf];omega
      ·have hTL:=hide (HT.out (t:Int) ((k:Int)+1) wr BQ)
       go_wp2_with fail
       refine (Zbo _ _ _ _).mono ?_
       rintro e w3 ⟨rfl,rfl⟩;rw [hin']
       go_wp2_with fail
       refine hTL.out.mono ?_
       rintro e w3 ⟨rfl,b3⟩;have hs3:=b3.size;have HMS:=hide (ZiR HO.out (by rw [<-show (k:Int)+1=((k+1:Nat):Int) by omega, <-HD.out];exact HNJ.out) (fun hc=>by have h2:=hc.2;rw [show ((k+1:Nat):Int)=(k:Int)+1 by omega,ht] at h2;omega))
       have HG3:=hide ((b3.block _ (Zab HG.out)).trans HG.out);have HZ3:=hide ((b3.block _ (Zab HZZ.out)).trans HZZ.out);have B3:Below w.heap.size w2 w3:=hnq.trans (b3.mono BQ.size)
       go_wp2
       go_roundw
       case rel=>exact ⟨j+1,o,by omega,by go_num,HMS,HG3,HZ3.out,B3⟩
       case measure=>simp [intOf];omega
     ·have hin':inB n.to 1 6=false:=by simpa using hin
      have HMS:=hide (ZiR HO.out (by rw [<-show (k:Int)+1=((k+1:Nat):Int) by omega, <-HD.out];exact HNJ.out) (fun hc=>hin hc.1))
      go_wp2_with fail
      refine (Zbo _ _ _ _).mono ?_
      rintro e w3 ⟨rfl,rfl⟩;rw [hin']
      go_wp2
      go_roundw
      case rel=>exact ⟨j+1,o,by omega,by go_num,HMS,HG,HZZ.out,hnq⟩
      case measure=>simp [intOf];omega
    ·have hjn:j=D.near.length:=by omega
     have HMN:=hide (Zld (k:=k) (o:=o) (by rw [<-show (k:Int)+1=((k+1:Nat):Int) by omega, <-HD.out, <-hjn];exact HO.out))
     clear hjn
     go_wp2
     go_roundw
     case rel=>exact ⟨k+1,o,by omega,rfl,HMN,HG.out,BQ⟩
     case measure=>simp [intOf];omega
  ·have hk6:¬(k:Int)+1<=6:=by omega
   have KN:=hide (show ∀ u v,1<=u->u<=6->1<=v->v<=6->o u v=Zlb (fsts ps) area u v by
    intro u v h1 h2 h3 h4;rw [HO.out u v h1 h2 h3 h4];unfold Zdo;rw [if_pos (by omega)])
   go_wp2
   go_ret
   first
    | exact ⟨rfl,o,hg,KN.out,hnx⟩
    | exact ⟨o,rfl,hg,KN.out,hnx⟩
def ZgP (xs:List RecD)(area:Int)(u v:Nat):Int:=if (1<=u/\u<=6)/\(1<=v/\v<=6) then Zlb xs area u v else 0
theorem Zfe {ns:List Nr}{bk:Int->Int}{v:Nat}(h:∀ n∈ns,1<=n.c/\n.c<=1000):∀ k,0<=ZdC ns bk v k/\ZdC ns bk v k<=1000
 | 0=>by simp [ZdC]
 | k+1=>by
  have ih:=Zfe (bk:=bk) (v:=v) h k;cases e:ns[k]? with
  | none=>
   have:ZdC ns bk v (k+1)=ZdC ns bk v k:=by
    show (match ns[k]? with
     | some n=>if n.to=(v:Int)/\inB n.to 1 6=true/\0<bk n.to then n.c else ZdC ns bk v k
     | none=>ZdC ns bk v k)=_
    rw [e]
   rw [this];exact ih
  | some n=>
   rw [Zel bk v e];have:=h n (List.mem_of_getElem? e)
   split
   ·omega
   ·exact ih
theorem ZdR {α:Type}{ok:α->Bool}{ls:List α}(h:Zbl ok ls=true){a:α}(ha:a∈ls):ok a=true:=by
 obtain⟨k,hk,e⟩:=List.mem_iff_getElem.1 ha;unfold Zbl at h;rw [List.all_eq_true] at h;have:=h k (by simpa using hk)
 unfold okAt at this;rw [List.getElem?_eq_getElem hk,e] at this;exact this
theorem Zij {x:RecD}(h:Zas x=true):x.near=[]\/(x.kind=1/\Za1 x.owner x.near=true):=by
 unfold Zas at h;simp only [Bool.and_eq_true] at h
 have h2:=h.2
 split at h2
 ·rename_i e
  simp only [Bool.and_eq_true] at h2
  exact .inr ⟨e,h2.1.1.2⟩
 ·split at h2
  ·simp only [Bool.and_eq_true,beq_iff_eq] at h2
   exact .inl (List.eq_nil_of_length_eq_zero h2.1.1.2)
  ·split at h2
   ·simp only [Bool.and_eq_true,beq_iff_eq] at h2
    exact .inl (List.eq_nil_of_length_eq_zero h2.1.2)
   ·cases h2
theorem Zfp {x:RecD}(h:Zas x=true):∀ n∈x.near,1<=n.c/\n.c<=1000:=by
 intro n hn
 rcases Zij h with e | ⟨_,e⟩
 ·rw [e] at hn;cases hn
 ·unfold Za1 at e
  simp only [Bool.and_eq_true] at e
  have:=ZdR e.1 hn;unfold ZbC at this;simp only [Bool.and_eq_true] at this
  exact Ze8.1 this.2
theorem Zj1 {xs:List RecD}{r:RecD}:Zh1 xs r∈xs\/Zh1 xs r=Zbe:=by
 rcases ZbP xs r with hz | ⟨j,y,hz,hy,_⟩
 ·exact .inr (Zhm hz).1
 ·rw [(Zj2 hz hy).1];exact .inl (List.mem_of_getElem? hy)
theorem Zhz {xs:List RecD}{area node:Int}(h:Zaw xs=true):∀ n∈(Zds xs area node).near,1<=n.c/\n.c<=1000:=by
 intro n hn;unfold Zds at hn
 rcases Zj1 (xs:=xs) (r:=Zhy area node) with hm | he
 ·unfold Zaw at h
  simp only [Bool.and_eq_true] at h
  have hr:=ZdR h.1.2 hm;exact Zfp hr n hn
 ·rw [he] at hn;cases hn
theorem Zfd {xs:List RecD}{area:Int}(h:Zaw xs=true):Links (ZgP xs area) 1000:=by
 refine⟨fun u v=>?_,fun u v=>?_,fun u v hl=>?_⟩
 ·unfold ZgP;split
  ·exact (Zfe (Zhz h) _).1
  ·omega
 ·unfold ZgP;split
  ·exact (Zfe (Zhz h) _).2
  ·omega
 ·unfold ZgP at hl
  split at hl
  ·rename_i e;exact e
  ·omega
def ZjX (c:Nat->Int)(i:Nat):Value:=.int .i64 (if i=0 then 0 else c i)
def doneV (F:Nat->Bool)(i:Nat):Value:=.bool (F i)
def upd {α:Type}(f:Nat->α)(v:Nat)(x:α)(i:Nat):α:=if i=v then x else f i
structure SSt (W:World) (g b:Nat) (o:Nat->Nat->Int) (F:Nat->Bool) (c:Nat->Int) (h:Nat->List Int) (hv:Nat->Value):Prop where
 gb:g<b
 ln:W.heap[g]? = some (.cells (rowA (ZfK o) 49) 3)
 cs:W.heap[b]? = some (.cells (rowA (ZjX c) 7) 3)
 hs:W.heap[b+1]? = some (.cells (rowA hv 7) 28)
 ds:W.heap[b+1+1]? = some (.cells (rowA (doneV F) 7) 4)
 rows:∀ v,W.ownsRow (b+3) 3 1 (hv v) (h v).length (flat intE (h v))
 short:∀ v,(h v).length<=6
theorem SSt.size {W:World}{g b:Nat}{o:Nat->Nat->Int}{F:Nat->Bool}{c:Nat->Int}{h:Nat->List Int}{hv:Nat->Value}(s:SSt W g b o F c h hv):b+3<=W.heap.size:=by
 have:=Zab s.ds;omega
theorem SSt.below {W W':World}{g b:Nat}{o:Nat->Nat->Int}{F:Nat->Bool}{c:Nat->Int}{h:Nat->List Int}{hv:Nat->Value}(s:SSt W g b o F c h hv)(hb:Below W.heap.size W W'):SSt W' g b o F c h hv:=
 ⟨s.gb,(hb.block _ (Zab s.ln)).trans s.ln,(hb.block _ (Zab s.cs)).trans s.cs,(hb.block _ (Zab s.hs)).trans s.hs,(hb.block _ (Zab s.ds)).trans s.ds,fun v=>Zah (s.rows v) hb (Nat.le_refl _),s.short⟩
theorem SSt.cost {W:World}{g b:Nat}{o:Nat->Nat->Int}{F:Nat->Bool}{c:Nat->Int}{h:Nat->List Int}{hv:Nat->Value}(s:SSt W g b o F c h hv){v:Nat}(h1:1<=v)(h6:v<=6):W.cell? ⟨b,v,none⟩=some (.int .i64 (c v)):=by
 rw [Zd7 s.cs (by omega)];unfold ZjX;rw [if_neg (by omega)]
theorem SSt.done {W:World}{g b:Nat}{o:Nat->Nat->Int}{F:Nat->Bool}{c:Nat->Int}{h:Nat->List Int}{hv:Nat->Value}(s:SSt W g b o F c h hv){v:Nat}(h6:v<=6):W.cell? ⟨b+1+1,v,none⟩=some (.bool (F v)):=by
 rw [Zd7 s.ds (by omega)];rfl
theorem SSt.hop {W:World}{g b:Nat}{o:Nat->Nat->Int}{F:Nat->Bool}{c:Nat->Int}{h:Nat->List Int}{hv:Nat->Value}(s:SSt W g b o F c h hv){v:Nat}(h6:v<=6):W.cell? ⟨b+1,v,none⟩=some (hv v):=Zd7 s.hs (by omega)
theorem SSt.link {W:World}{g b:Nat}{o:Nat->Nat->Int}{F:Nat->Bool}{c:Nat->Int}{h:Nat->List Int}{hv:Nat->Value}(s:SSt W g b o F c h hv){u v:Nat}(h5:u<=6)(h6:v<=6):W.cell? ⟨g,u*7+v,none⟩=some (.int .i64 (o u v)):=ZiP s.ln h5 h6
theorem SSt.setC {W:World}{g b:Nat}{o:Nat->Nat->Int}{F:Nat->Bool}{c:Nat->Int}{h:Nat->List Int}{hv:Nat->Value}(s:SSt W g b o F c h hv){v:Nat}(h1:1<=v)(x:Int):SSt (W.setCell ⟨b,v,none⟩ (.int .i64 x)) g b o F (upd c v x) h hv:=by
 have hg:=s.gb;refine⟨s.gb,(heap_setCell_other W ⟨b,v,none⟩ g _ (by show g≠b;omega)).trans s.ln,?_,(heap_setCell_other W ⟨b,v,none⟩ (b+1) _ (by show b+1≠b;omega)).trans s.hs,(heap_setCell_other W ⟨b,v,none⟩ (b+1+1) _ (by show b+1+1≠b;omega)).trans s.ds,fun u=>Zau (s.rows u) (by omega),s.short⟩
 rw [ZeU s.cs,ZcN (fun i _=>?_)]
 unfold ZjX upd;by_cases e:i=v
 ·subst e;rw [if_pos rfl,if_neg (by omega),if_pos rfl]
 ·rw [if_neg e];simp [e]
theorem SSt.setD {W:World}{g b:Nat}{o:Nat->Nat->Int}{F:Nat->Bool}{c:Nat->Int}{h:Nat->List Int}{hv:Nat->Value}(s:SSt W g b o F c h hv)(v:Nat):SSt (W.setCell ⟨b+1+1,v,none⟩ (.bool true)) g b o (fun x=>F x||x==v) c h hv:=by
 have hg:=s.gb;refine⟨s.gb,(heap_setCell_other W ⟨b+1+1,v,none⟩ g _ (by show g≠b+1+1;omega)).trans s.ln,(heap_setCell_other W ⟨b+1+1,v,none⟩ b _ (by show b≠b+1+1;omega)).trans s.cs,(heap_setCell_other W ⟨b+1+1,v,none⟩ (b+1) _ (by show b+1≠b+1+1;omega)).trans s.hs,?_,fun u=>Zau (s.rows u) (by omega),s.short⟩
 rw [ZeU s.ds,ZcN (fun i _=>?_)]
 unfold doneV;by_cases e:i=v
 ·subst e;simp
 ·simp [e]
theorem SSt.setH {W:World}{g b:Nat}{o:Nat->Nat->Int}{F:Nat->Bool}{c:Nat->Int}{h:Nat->List Int}{hv:Nat->Value}(s:SSt W g b o F c h hv)(v:Nat){x:Value}{l:List Int}(hx:W.ownsRow (b+3) 3 1 x l.length (flat intE l))(hl:l.length<=6):SSt (W.setCell ⟨b+1,v,none⟩ x) g b o F c (upd h v l) (upd hv v x):=by
 have hg:=s.gb;refine⟨s.gb,(heap_setCell_other W ⟨b+1,v,none⟩ g _ (by show g≠b+1;omega)).trans s.ln,(heap_setCell_other W ⟨b+1,v,none⟩ b _ (by show b≠b+1;omega)).trans s.cs,?_,(heap_setCell_other W ⟨b+1,v,none⟩ (b+1+1) _ (by show b+1+1≠b+1;omega)).trans s.ds,fun u=>?_,fun u=>?_⟩
 ·rw [ZeU s.hs];rfl
 ·unfold upd
  by_cases e:u=v
  ·rw [if_pos e,if_pos e];exact Zau hx (by omega)
  ·rw [if_neg e,if_neg e];exact Zau (s.rows u) (by omega)
 ·unfold upd
  by_cases e:u=v
  ·rw [if_pos e];exact hl
  ·rw [if_neg e];exact s.short u
theorem SSt.congr {W:World}{g b:Nat}{o:Nat->Nat->Int}{F:Nat->Bool}{c d:Nat->Int}{h:Nat->List Int}{hv:Nat->Value}(s:SSt W g b o F c h hv)(hc:∀ v,1<=v->v<=6->d v=c v):SSt W g b o F d h hv:=by
 refine⟨s.gb,s.ln,?_,s.hs,s.ds,s.rows,s.short⟩
 rw [s.cs,ZcN (fun i hi=>?_)]
 unfold ZjX;by_cases e:i=0
 ·rw [if_pos e,if_pos e]
 ·rw [if_neg e,if_neg e,hc i (by omega) (by omega)]
theorem SSt.start {W:World}{g:Nat}{o:Nat->Nat->Int} (hg:W.heap[g]? = some (.cells (rowA (ZfK o) 49) 3)):
  SSt (((W.alloc (.cells (rowA (fun _=>.int .i64 0) 7) 3)).alloc (.cells (rowA (fun _=>.slice none 0 0) 7) 28)).alloc (.cells (rowA (fun _=>.bool false) 7) 4)) g W.heap.size o (fun _=>false) (fun _=>0) (fun _=>[]) (fun _=>.slice none 0 0):=by
 have hlt:=Zab hg;refine⟨hlt,?_,?_,?_,?_,fun v=>World.ownsRow_nil _ _ _ _,by simp⟩
 ·rw [Below.heap_alloc _ _ _ (by simp;omega),Below.heap_alloc _ _ _ (by simp;omega),Below.heap_alloc _ _ _ hlt];exact hg
 ·rw [Below.heap_alloc _ _ _ (by simp;omega),Below.heap_alloc _ _ _ (by simp),heap_alloc_new,ZcN (fun i _=>?_)]
  unfold ZjX;simp
 ·rw [Below.heap_alloc _ _ _ (by simp)]
  have e:=heap_alloc_new (W.alloc (.cells (rowA (fun _=>.int .i64 0) 7) 3)) (.cells (rowA (fun _=>.slice none 0 0) 7) 28)
  rw [show (W.alloc (.cells (rowA (fun _=>.int .i64 0) 7) 3)).heap.size=W.heap.size+1 by simp] at e
  exact e
 ·have e:=heap_alloc_new ((W.alloc (.cells (rowA (fun _=>.int .i64 0) 7) 3)).alloc (.cells (rowA (fun _=>.slice none 0 0) 7) 28)) (.cells (rowA (fun _=>.bool false) 7) 4)
  rw [show ((W.alloc (.cells (rowA (fun _=>.int .i64 0) 7) 3)).alloc (.cells (rowA (fun _=>.slice none 0 0) 7) 28)).heap.size=W.heap.size+1+1 by simp] at e
  exact e
theorem Zgt (a b:List Int)(x:Int):∀ k:Nat,x∈addT a b k↔(1<=x/\x<=(k:Int)/\(x∈a\/x∈b))
 | 0=>by simp [addT];omega
 | k+1=>by
  unfold addT;rw [List.mem_append,Zgt a b x k];by_cases e:(k:Int)+1∈a\/(k:Int)+1∈b
  ·rw [if_pos e]
   simp only [List.mem_singleton]
   constructor
   ·rintro (⟨h1,h2,h3⟩ | rfl)
    ·exact ⟨h1,by omega,h3⟩
    ·exact ⟨by omega,by omega,e⟩
   ·rintro ⟨h1,h2,h3⟩
    by_cases e2:x=(k:Int)+1
    ·exact .inr e2
    ·exact .inl ⟨h1,by omega,h3⟩
  ·rw [if_neg e]
   simp only [List.not_mem_nil,or_false]
   constructor
   ·rintro ⟨h1,h2,h3⟩;exact⟨h1,by omega,h3⟩
   ·rintro ⟨h1,h2,h3⟩
    refine⟨h1,?_,h3⟩
    by_cases e2:x=(k:Int)+1
    ·subst e2;exact absurd h3 e
    ·omega
theorem ZiC (a b:List Int):∀ k:Nat,(addT a b k).Pairwise (· < ·)
 | 0=>by simp [addT]
 | k+1=>by
  unfold addT;rw [List.pairwise_append];refine⟨ZiC a b k,by split <;> simp,?_⟩
  intro x hx y hy;have h1:=(Zgt a b x k).1 hx
  split at hy
  ·simp at hy;omega
  ·cases hy
theorem Zgr {a b:List Int}{x:Int}:x∈addL a b↔(1<=x/\x<=6/\(x∈a\/x∈b)):=Zgt a b x 6
theorem Zgq (a b:List Int):(addL a b).Pairwise (· < ·):=ZiC a b 6
theorem ZcF (a b:List Int):(addL a b).length<=6:=Zgs a b 6
def wayL (src:Nat)(h:Nat->List Int)(u v:Nat):List Int:=if u=src then [(v:Int)] else h u
theorem Zi6 {src:Nat}{h:Nat->List Int}{u v:Nat}{x:Int}:x∈wayL src h u v↔ZcU src h u v x:=by
 unfold wayL ZcU;by_cases e:u=src
 ·rw [if_pos e];simp [e]
 ·rw [if_neg e];simp [e]
def Zbz (L:Nat->Nat->Int)(src:Nat)(c:Nat->Int)(h:Nat->List Int)(u v:Nat):List Int:=
 if 0<L u v then (if c v<0\/c u+L u v<c v then addL [] (wayL src h u v) else if c u+L u v=c v then addL (h v) (wayL src h u v) else h v) else h v
theorem Zik {L:Nat->Nat->Int}{K:Int}{src:Nat}{F:Nat->Bool}{c:Nat->Int}{h:Nat->List Int}(I:Inv L src F c h)(hL:Links L K){u:Nat}(hu:0<=c u)(v:Nat):RelaxH L src c h u v (Zbz L src c h u v):=by
 have hrng:∀ x,0<L u v->ZcU src h u v x->1<=x/\x<=6:=by
  intro x hl ho
  rcases ho with ⟨_,rfl⟩ | ⟨_,h2⟩
  ·have:=(hL.node u v hl).2;unfold Zcx at this;omega
  ·exact I.rng u x h2
 have hneg:c v<0->∀ x,x ∉ h v:=by
  intro hc x hx;by_cases e:v=src
  ·subst e;rw [I.start0] at hx;cases hx
  ·have:=((I.hop v e x).1 hx).1;omega
 unfold Zbz;by_cases h1:0<L u v
 ·rw [if_pos h1]
  by_cases h2:c v<0\/c u+L u v<c v
  ·rw [if_pos h2]
   have e:Zav L c u v=c u+L u v:=by unfold Zav;rw [if_pos ⟨h1,h2⟩]
   refine⟨Zgq _ _,fun x=>?_⟩
   rw [Zgr,e,Zi6]
   constructor
   ·rintro ⟨_,_,h5 | h5⟩
    ·cases h5
    ·exact .inr ⟨h1,rfl,h5⟩
   ·rintro (⟨h5,h6⟩ | ⟨_,_,h5⟩)
    ·omega
    ·have:=hrng x h1 h5;exact⟨this.1,this.2,.inr h5⟩
  ·rw [if_neg h2]
   have e:Zav L c u v=c v:=by unfold Zav;rw [if_neg (fun hc=>h2 hc.2)]
   by_cases h3:c u+L u v=c v
   ·rw [if_pos h3]
    refine⟨Zgq _ _,fun x=>?_⟩
    rw [Zgr,e,Zi6]
    constructor
    ·rintro ⟨_,_,h5 | h5⟩
     ·exact .inl ⟨h5,rfl⟩
     ·exact .inr ⟨h1,h3.symm,h5⟩
    ·rintro (⟨h5,_⟩ | ⟨_,_,h5⟩)
     ·have:=I.rng v x h5;exact⟨this.1,this.2,.inl h5⟩
     ·have:=hrng x h1 h5;exact⟨this.1,this.2,.inr h5⟩
   ·rw [if_neg h3]
    refine⟨I.asc v,fun x=>?_⟩
    rw [e]
    constructor
    ·intro h5;exact .inl ⟨h5,rfl⟩
    ·rintro (⟨h5,_⟩ | ⟨_,h6,_⟩)
     ·exact h5
     ·omega
 ·rw [if_neg h1]
  have e:Zav L c u v=c v:=by unfold Zav;rw [if_neg (fun hc=>h1 hc.1)]
  refine⟨I.asc v,fun x=>?_⟩
  rw [e]
  constructor
  ·intro h5;exact .inl ⟨h5,rfl⟩
  ·rintro (⟨h5,_⟩ | ⟨h6,_⟩)
   ·exact h5
   ·exact absurd h6 h1
def mixC (L:Nat->Nat->Int)(c:Nat->Int)(u j v:Nat):Int:=if v<j then Zav L c u v else c v
def mixH (L:Nat->Nat->Int)(src:Nat)(c:Nat->Int)(h:Nat->List Int)(u j v:Nat):List Int:=if v<j then Zbz L src c h u v else h v
theorem Zlf {L:Nat->Nat->Int}{K:Int}(hL:Links L K)(c:Nat->Int)(u:Nat):mixC L c u 1=c:=by
 funext v
 unfold mixC;by_cases e:v<1
 ·rw [if_pos e]
  unfold Zav;rw [if_neg (fun hc=>by have:=(hL.node u v hc.1).2;unfold Zcx at this;omega)]
 ·rw [if_neg e]
theorem Zlh {L:Nat->Nat->Int}{K:Int}(hL:Links L K)(src:Nat)(c:Nat->Int)(h:Nat->List Int)(u:Nat):mixH L src c h u 1=h:=by
 funext v
 unfold mixH;by_cases e:v<1
 ·rw [if_pos e]
  unfold Zbz;rw [if_neg (fun hc=>by have:=(hL.node u v hc).2;unfold Zcx at this;omega)]
 ·rw [if_neg e]
theorem Zdh (L:Nat->Nat->Int)(c:Nat->Int)(u j:Nat):mixC L c u (j+1)=upd (mixC L c u j) j (Zav L c u j):=by
 funext v
 unfold upd
 show (if v<j+1 then Zav L c u v else c v)=if v=j then Zav L c u j else if v<j then Zav L c u v else c v
 by_cases e:v=j
 ·rw [if_pos (by omega),if_pos e,e]
 ·rw [if_neg e]
  by_cases e2:v<j
  ·rw [if_pos e2,if_pos (by omega)]
  ·rw [if_neg e2,if_neg (by omega)]
theorem Zcl (L:Nat->Nat->Int)(src:Nat)(c:Nat->Int)(h:Nat->List Int)(u j:Nat):mixH L src c h u (j+1)=upd (mixH L src c h u j) j (Zbz L src c h u j):=by
 funext v
 unfold upd
 show (if v<j+1 then Zbz L src c h u v else h v)=if v=j then Zbz L src c h u j else if v<j then Zbz L src c h u v else h v
 by_cases e:v=j
 ·rw [if_pos (by omega),if_pos e,e]
 ·rw [if_neg e]
  by_cases e2:v<j
  ·rw [if_pos e2,if_pos (by omega)]
  ·rw [if_neg e2,if_neg (by omega)]
theorem Zhs {L:Nat->Nat->Int}{c:Nat->Int}{u j:Nat}:mixC L c u j j=c j:=by
 unfold mixC;rw [if_neg (by omega)]
theorem Zfi {L:Nat->Nat->Int}{src:Nat}{c:Nat->Int}{h:Nat->List Int}{u j:Nat}:mixH L src c h u j j=h j:=by
 unfold mixH;rw [if_neg (by omega)]
theorem Zl5 {α:Type}(f:Nat->α)(v:Nat):upd f v (f v)=f:=by
 funext i
 unfold upd;by_cases e:i=v
 ·rw [if_pos e,e]
 ·rw [if_neg e]
theorem Zdg {L:Nat->Nat->Int}{c:Nat->Int}{u j:Nat}(e:Zav L c u j=c j):mixC L c u (j+1)=mixC L c u j:=by
 rw [Zdh,e, <-Zhs (L:=L) (c:=c) (u:=u) (j:=j),Zl5]
theorem Zfh {L:Nat->Nat->Int}{src:Nat}{c:Nat->Int}{h:Nat->List Int}{u j:Nat}(e:Zbz L src c h u j=h j):mixH L src c h u (j+1)=mixH L src c h u j:=by
 rw [Zcl,e, <-Zfi (L:=L) (src:=src) (c:=c) (h:=h) (u:=u) (j:=j),Zl5]
theorem Zle {L:Nat->Nat->Int}{K:Int}(hL:Links L K)(c:Nat->Int)(u:Nat):mixC L c u 7=fun v=>Zav L c u v:=by
 funext v
 unfold mixC;by_cases e:v<7
 ·rw [if_pos e]
 ·rw [if_neg e]
  unfold Zav;rw [if_neg (fun hc=>by have:=(hL.node u v hc.1).2;unfold Zcx at this;omega)]
theorem Zlg {L:Nat->Nat->Int}{K:Int}(hL:Links L K)(src:Nat)(c:Nat->Int)(h:Nat->List Int)(u:Nat):mixH L src c h u 7=fun v=>Zbz L src c h u v:=by
 funext v
 unfold mixH;by_cases e:v<7
 ·rw [if_pos e]
 ·rw [if_neg e]
  unfold Zbz;rw [if_neg (fun hc=>by have:=(hL.node u v hc).2;unfold Zcx at this;omega)]
theorem Zfr {L:Nat->Nat->Int}{src:Nat}{c:Nat->Int}{h:Nat->List Int}{u v:Nat}(e:¬0<L u v):Zbz L src c h u v=h v/\Zav L c u v=c v:=by
 unfold Zbz Zav;rw [if_neg e,if_neg (fun hc=>e hc.1)]
 exact⟨rfl,rfl⟩
theorem ZdH {L:Nat->Nat->Int}{src:Nat}{c:Nat->Int}{h:Nat->List Int}{u v:Nat}(h0:0<=c v)(e:c v<c u+L u v):Zbz L src c h u v=h v/\Zav L c u v=c v:=by
 unfold Zbz Zav
 constructor
 ·split
  ·rw [if_neg (by omega),if_neg (by omega)]
  ·rfl
 ·rw [if_neg (by omega)]
theorem Zc4 {L:Nat->Nat->Int}{src:Nat}{c:Nat->Int}{h:Nat->List Int}{u v:Nat}(hl:0<L u v)(e:c v<0\/c u+L u v<c v):Zbz L src c h u v=addL [] (wayL src h u v)/\Zav L c u v=c u+L u v:=by
 unfold Zbz Zav;rw [if_pos hl,if_pos e,if_pos ⟨hl,e⟩];exact⟨rfl,rfl⟩
theorem Zfq {L:Nat->Nat->Int}{src:Nat}{c:Nat->Int}{h:Nat->List Int}{u v:Nat}(hl:0<L u v)(h0:0<=c v)(e:c u+L u v=c v):Zbz L src c h u v=addL (h v) (wayL src h u v)/\Zav L c u v=c v:=by
 unfold Zbz Zav;rw [if_pos hl,if_neg (by omega),if_pos e,if_neg (by omega)]
 exact⟨rfl,rfl⟩
end Go.Proofs.YtcimbiinljcifaaGreat
