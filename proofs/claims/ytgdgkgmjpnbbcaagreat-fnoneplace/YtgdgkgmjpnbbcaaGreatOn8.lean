/-
  CopyW AddW RowA LinksS
-/
import Derived.Test.YtgdgkgmjpnbbcaaGreatOn7
import Derived.Test.YtgdgkgmjpnbbcaaGreatOn2
import Derived.Test.YtgdgkgmjpnbbcaaGreatOn1
import Derived.Deep.OwnRows
namespace Go.Proofs.YtgdgkgmjpnbbcaaGreat
open Go.RowKit
set_option linter.unusedSimpArgs false
set_option linter.unusedVariables false
set_option maxRecDepth 100000
set_option maxHeartbeats 8000000
theorem Zcr (z:Int):∀ u∈intE z,u.oneCell'=true:=by
 intro u hu;simp [intE] at hu
 subst hu
 rfl
abbrev Za7 (W:World) (g:Nat) (x:WayD) (v:Value):World:=((W.setCell ⟨g,0,none⟩ (.int .i64 x.to)).setCell ⟨g,1,none⟩ (.int .i64 x.cost)).setCell ⟨g,2,none⟩ v
theorem Zdc {W:World}{B0:Nat}{c0 c1 c2:Value}(x:WayD)(v:Value)(hr:W.heap[B0]? = some (.cells #[c0,c1,c2] 48)):
  (Za7 W B0 x v).heap[B0]? = some (.cells (wayC x v) 48):=by
 have k1:=heap_setCell_same _ _ 0 _ _ (.int .i64 x.to) hr;have k2:=heap_setCell_same _ _ 1 _ _ (.int .i64 x.cost) k1;have k3:=heap_setCell_same _ _ 2 _ _ v k2;simp only [List.setIfInBounds_toArray,List.set_cons_zero,List.set_cons_succ] at k3
 unfold Za7 wayC;exact k3
theorem Za1 (W:World)(g:Nat)(x:WayD)(v:Value):W.grownBy (Za7 W g x v) (some g):=
 Zai (Zai (Zal W g _ _) (Zal _ g _ _)) (Zal _ g _ _)
theorem Zdm (l:List Int):(flat intE l).length=l.length*1:=ZaX Zea l
theorem Zc7 (W:World)(g base:Nat)(hg:g=W.heap.size)(hb:base<=W.heap.size):(W.alloc (.cells #[] 3)).ownsRow base 3 1 (.slice (some ⟨g,0,none⟩) 0 0) 0 (flat intE []):=by
 subst hg;exact World.ownsRow_lit W #[] 0 hb (by unfold maxLen;omega) (by simp)
theorem Zgn (x:WayD)(v:Value)(base:Nat)(w:World)(ho:w.ownsRow base 3 1 v x.hops.length (flat intE x.hops))(hn:x.hops.length<=1048576):
  Calls Tryz.prog 38 #[.agg (wayC x v)] w fun e w'=>∃ v',e=.returned (.agg (wayC x v'))/\w'.ownsRow w.heap.size 3 1 v' x.hops.length (flat intE x.hops)/\Below w.heap.size w w':=by
 obtain⟨va,vc,rfl⟩:=Zac ho;have OW:=hide ho;clear ho
 go_enter Tryz.func38,Tryz.ntmps38
 unfold wayC
 go_wp2_with (first
  | (at_builtin;refine Zch Zdm (by omega) Zcr (by omega) _ rfl _ _ 37 rfl (w.heap.size+2) 3 Tryz.underlying37 (.int .i64 0) rfl Tryz.info3 _ [] rfl ?own0 base _ x.hops rfl (((OW.out.alloc _).alloc _).alloc _) (by simp;omega) (by simp) ?_))
 case own0=>
  exact Zc7 _ _ _ (by simp) (by simp)
 intro v' w4 hown' hgrow;obtain⟨na,nc,rfl⟩:=Zac hown';simp only [Value.ownBlock] at hgrow
 have hb4:Below w.heap.size w w4:=((((Below.refl w.heap.size w).alloc (by simp) _).alloc (by simp) _).alloc (by simp;omega) _).grown hgrow (by simp;omega) (fun k hk=>by simp at hk;omega)
 have q0:w4.heap[w.heap.size]? = some (.cells #[.int .i64 x.to,.int .i64 x.cost,.slice va x.hops.length vc] 48):=by
  rw [hgrow.block w.heap.size (by simp;omega) (by simp;omega),Below.heap_alloc _ _ _ (by simp;omega),Below.heap_alloc _ _ _ (by simp),heap_alloc_new]
 have q1:w4.heap[w.heap.size+1]? = some (.cells #[.int .i64 0,.int .i64 0,.slice none 0 0] 48):=by
  rw [hgrow.block (w.heap.size+1) (by simp) (by simp),Below.heap_alloc _ _ _ (by simp)]
  have e:=heap_alloc_new (w.alloc (.cells #[.int .i64 x.to,.int .i64 x.cost,.slice va x.hops.length vc] 48)) (.cells #[.int .i64 0,.int .i64 0,.slice none 0 0] 48);rw [show (w.alloc (.cells #[.int .i64 x.to,.int .i64 x.cost,.slice va x.hops.length vc] 48)).heap.size=w.heap.size+1 by simp] at e
  exact e
 have r2:=Zaa q0 2;have f0:=Zae q0;simp at r2
 have q2:=heap_setCell_same w4 w.heap.size 2 _ _ (.slice na x.hops.length nc) q0;simp only [List.setIfInBounds_toArray,List.set_cons_zero,List.set_cons_succ] at q2
 have q3:(w4.setCell ⟨w.heap.size,2,none⟩ (.slice na x.hops.length nc)).heap[w.heap.size+1]? = some (.cells #[.int .i64 0,.int .i64 0,.slice none 0 0] 48):=by
  rw [heap_setCell_other w4 ⟨w.heap.size,2,none⟩ _ _ (by show w.heap.size+1≠w.heap.size;omega)];exact q1
 have y0:=Zaa q2 0;have y1:=Zaa q2 1;have y2:=Zaa q2 2;simp at y0 y1 y2
 have u0:=Zaa q3 0;have u1:=Zaa q3 1;have u2:=Zaa q3 2;simp at u0 u1 u2
 have fu:=Zae q3;have F:=Zdc x (.slice na x.hops.length nc) q3;have hown2:=ZaH (j:=2) (u:=.slice na x.hops.length nc) hown' (show w.heap.size<w.heap.size+2 by omega)
 have G8:=Za1 (w4.setCell ⟨w.heap.size,2,none⟩ (.slice na x.hops.length nc)) (w.heap.size+1) x (.slice na x.hops.length nc);have hown3:=Zah (b0:=w.heap.size) (hown2.kept G8 (by
  cases hv:(Value.slice na x.hops.length nc).ownBlock with
  | none=>exact .inl rfl
  | some g=>exact .inr (fun e=>by have:=(hown2.lt g hv).1;simp at e;omega))) (by omega)
 have hb5:Below w.heap.size w (Za7 (w4.setCell ⟨w.heap.size,2,none⟩ (.slice na x.hops.length nc)) (w.heap.size+1) x (.slice na x.hops.length nc)):=(hb4.setCell (p:=⟨w.heap.size,2,none⟩) (Nat.le_refl _) _).grown G8 (by have:=Zab q3;omega) (fun k hk=>by simp at hk;omega)
 have FF:=hide F;have H3:=hide hown3;have H5:=hide hb5;clear F hown3 hb5 hown2 G8 hb4 hown' hgrow q0 q1 q2 q3 OW
 go_wp2_with fail
 (try simp only [Exit.inBlock,Exit.then])
 refine bodyPost_ret (results_cell_row rfl _ _ (w.heap.size+1) 48 (wayC _ _) (0,0) _ rfl FF.out Tryz.underlying48 rfl (by kernel_rfl)) rfl ?_
 exact⟨_,rfl,H3.out,H5.out⟩
theorem Zos {l:List Int}{k:Nat}{z y:Int}(h:l[k]? = some y)(hn:z ∉ l.take k)(hz:z≠y):z ∉ l.take (k+1):=by
 obtain⟨hk,e⟩:=List.getElem?_eq_some_iff.1 h;rw [List.take_succ_eq_append_getElem hk,e];simp [hn,hz]
theorem ZmW (v:Value)(l:List Int)(z:Int)(w:World)(hn:l.length<=1048576)(hv:ZaP w v l w.heap.size):
  Calls Tryz.prog 76 #[v,.int .i64 z] w fun e w'=>e=.returned (.bool (decide (z∈l)))/\Below w.heap.size w w':=by
 obtain⟨R,hR⟩:∃ R,R=decide (z∈l):=⟨_,rfl⟩;rw [<-hR];have HR:=hide hR;clear hR;obtain⟨a,cap,rfl⟩:=hv.shape;have HV:=hide hv;clear hv
 go_enter Tryz.func76,Tryz.ntmps76
 go_wp2
 go_loopw [5] (fun i wr=>∃ k:Nat,k<=l.length/\i=.int .i64 k/\Hid (z ∉ l.take k)/\Below w.heap.size w wr) (fun i _=>l.length-(intOf i).toNat)
 case atStart=>exact ⟨0,by omega,rfl,hide (by simp),Below.refl _ _⟩
 case round=>
  obtain⟨k,hk,rfl,HNO,hnx⟩:=hrel;by_cases hlt:k<l.length
  ·obtain ⟨y,hy⟩:∃ y,l[k]? = some y:=⟨l[k],List.getElem?_eq_getElem hlt⟩
   obtain⟨b,off,cap',hve,hbb,c0⟩:=HV.out.cell k y hy;cases hve
   rw [<-hnx.cell (p:=⟨b,off+k,none⟩) hbb] at c0;have hki:(0:Int)<=(k:Int):=by omega
   have hkj:(k:Int)<(l.length:Int):=by omega
   by_cases hzy:z=y
   ·subst hzy
    have HF:=hide (show R=true by rw [HR.out];exact decide_eq_true (List.mem_of_getElem? hy))
    clear hy
    go_wp2
    (try go_quiet (fail))
    (try go_wp2)
    go_ret
    exact⟨Zam HF.out,by first | exact hnx | exact hnx.trans ⟨rfl,rfl,rfl,Nat.le_refl _,fun _ _=>rfl⟩⟩
   ·have HN:=hide (Zos hy HNO.out hzy)
    have hyz:¬y=z:=fun e=>hzy e.symm
    have hd:(y==z)=false:=by simpa using hyz
    clear hy
    go_wp2
    (try go_quiet (fail))
    (try go_wp2)
    go_roundw
    case rel=>exact ⟨k+1,by omega,by go_num,HN,by first | exact hnx | exact hnx.trans ⟨rfl,rfl,rfl,Nat.le_refl _,fun _ _=>rfl⟩⟩
    case measure=>simp [intOf];omega
  ·have HF:=hide (show R=false by
    rw [HR.out];have h:=HNO.out;rw [List.take_of_length_le (by omega)] at h
    exact decide_eq_false h)
   go_wp2
   go_ret
   exact⟨Zam HF.out,hnx⟩
def addT (a b:List Int):Nat->List Int
 | 0=>[]
 | k+1=>addT a b k++(if (k:Int)+1∈a\/(k:Int)+1∈b then [(k:Int)+1] else [])
def addL (a b:List Int):List Int:=addT a b 6
theorem ZhH (a b:List Int)(k:Nat):(addT a b k).length<=k:=by
 induction k with
 | zero=>simp [addT]
 | succ k ih=>
  unfold addT;rw [List.length_append]
  split <;> simp <;> omega
theorem ZbL (v1 v2:Value)(xs ys:List Int)(w:World)(hx:xs.length<=1048576)(hy:ys.length<=1048576)(h1:ZaP w v1 xs w.heap.size)(h2:ZaP w v2 ys w.heap.size):
  Calls Tryz.prog 37 #[v1,v2] w fun e w'=>∃ x,e=.returned x/\w'.ownsRow w.heap.size 3 1 x (addL xs ys).length (flat intE (addL xs ys))/\Below w.heap.size w w':=by
 obtain⟨a1,c1,rfl⟩:=h1.shape;obtain⟨a2,c2,rfl⟩:=h2.shape;have HI1:=hide (fun z W (hb:Below w.heap.size w W)=>ZmW (.slice a1 xs.length c1) xs z W hx ((ZaR.later h1 hb (Nat.le_refl _)).more hb.size))
 have HI2:=hide (fun z W (hb:Below w.heap.size w W)=>ZmW (.slice a2 ys.length c2) ys z W hy ((ZaR.later h2 hb (Nat.le_refl _)).more hb.size))
 have O0:=hide (Zc7 w w.heap.size w.heap.size rfl (Nat.le_refl _));have B0:Below w.heap.size w (w.alloc (.cells #[] 3)):=(Below.refl _ _).alloc (Nat.le_refl _) _;clear h1 h2
 go_enter Tryz.func37,Tryz.ntmps37
 go_wp2
 generalize w.alloc (.cells #[] 3)=w0 at *
 go_loopw [6,5] (fun i o wr=>∃ (k:Nat) (l:List Int) (u:Value),k<=6/\i=.int .i64 ((k:Int)+1)/\o=u/\Hid (l=addT xs ys k)/\wr.ownsRow w.heap.size 3 1 u l.length (flat intE l)/\Below w.heap.size w wr) (fun i _ _=>8-(intOf i).toNat)
 case atStart=>exact ⟨0,[],_,by omega,rfl,rfl,hide rfl,O0.out,B0⟩
 case round=>
  obtain⟨k,l,u,hk,rfl,rfl,HL,hown,hnx⟩:=hrel;obtain⟨ua,uc,rfl⟩:=Zac hown;have hsz:=hnx.size;have hll:l.length<=6:=by rw [HL.out];have:=ZhH xs ys k;omega
  have OW:=hide hown;clear hown;by_cases hlt:k<6
  ·have hk6:(k:Int)+1<=6:=by omega
   have hw1:IntKind.i64.wrap ((k:Int)+1+1)=((k+1:Nat):Int)+1:=by rw [ZaO _ (by omega) (by omega)];omega
   obtain⟨P,hP⟩:∃ P,P=decide ((k:Int)+1∈xs):=⟨_,rfl⟩;obtain⟨Q,hQ⟩:∃ Q,Q=decide ((k:Int)+1∈ys):=⟨_,rfl⟩;have H1:=HI1.out ((k:Int)+1);have H2:=HI2.out ((k:Int)+1);rw [<-hP] at H1;rw [<-hQ] at H2;have J1:=hide H1;have J2:=hide H2;have HST:=hide (show addT xs ys (k+1)=l++(if P=true\/Q=true then [(k:Int)+1] else []) by
    rw [HL.out,hP,hQ];simp [addT])
   clear H1 H2 hP hQ HI1 HI2;cases P
   ·go_wp2_with fail
    refine (J1.out _ hnx).mono ?_
    rintro e w2 ⟨rfl,b2⟩;have b2s:=b2.size
    go_wp2_with fail
    refine (J2.out _ (hnx.trans (b2.mono hsz))).mono ?_
    rintro e w3 ⟨rfl,b3⟩;have b3s:=b3.size;have B3:Below wr.heap.size wr w3:=b2.trans (b3.mono b2s);clear b2 b3;cases Q
    ·have HN:=hide (show l=addT xs ys (k+1) by rw [HST.out];simp)
     have OW3:=hide (Zaf OW.out B3 (Nat.le_refl _))
     go_wp2
     go_roundw
     case rel=>exact ⟨k+1,l,_,by omega,rfl,rfl,HN,OW3.out,hnx.trans (B3.mono hsz)⟩
     case measure=>simp [intOf];omega
    ·have HN:=hide (show l++[(k:Int)+1]=addT xs ys (k+1) by rw [HST.out];simp)
     go_wp2_with (first
      | (at_builtin;refine ZaG Zea (by omega) (by omega) _ rfl _ _ 37 rfl w.heap.size 3 Tryz.underlying37 (.int .i64 0) rfl Tryz.info3 _ l ((k:Int)+1) (Zcr _) rfl ((Zaf OW.out B3 (Nat.le_refl _)).alloc _) ⟨w3.heap.size,0,none⟩ 1 rfl (Zap (cs:=intE ((k:Int)+1))) (by omega) (by simp;omega) ?_))
     intro v' w4 hown' hgrow;obtain⟨va,vc,rfl⟩:=Zac hown';have B4:Below w.heap.size w w4:=((hnx.trans (B3.mono hsz)).alloc (by omega) _).grown hgrow (by simp;omega) (fun j hj=>(OW.out.lt j hj).1)
     have OW4:=hide hown';clear hown' hgrow
     go_wp2
     go_roundw
     case rel=>exact ⟨k+1,l++[(k:Int)+1],_,by omega,rfl,rfl,HN,(by simpa using OW4.out),B4⟩
     case measure=>simp [intOf];omega
   ·have HN:=hide (show l++[(k:Int)+1]=addT xs ys (k+1) by rw [HST.out];simp)
    go_wp2_with fail
    refine (J1.out _ hnx).mono ?_
    rintro e w3 ⟨rfl,B3⟩;have b3s:=B3.size
    go_wp2_with (first
     | (at_builtin;refine ZaG Zea (by omega) (by omega) _ rfl _ _ 37 rfl w.heap.size 3 Tryz.underlying37 (.int .i64 0) rfl Tryz.info3 _ l ((k:Int)+1) (Zcr _) rfl ((Zaf OW.out B3 (Nat.le_refl _)).alloc _) ⟨w3.heap.size,0,none⟩ 1 rfl (Zap (cs:=intE ((k:Int)+1))) (by omega) (by simp;omega) ?_))
    intro v' w4 hown' hgrow;obtain⟨va,vc,rfl⟩:=Zac hown';have B4:Below w.heap.size w w4:=((hnx.trans (B3.mono hsz)).alloc (by omega) _).grown hgrow (by simp;omega) (fun j hj=>(OW.out.lt j hj).1)
    have OW4:=hide hown';clear hown' hgrow
    go_wp2
    go_roundw
    case rel=>exact ⟨k+1,l++[(k:Int)+1],_,by omega,rfl,rfl,HN,(by simpa using OW4.out),B4⟩
    case measure=>simp [intOf];omega
  ·have hk6:¬(k:Int)+1<=6:=by omega
   have KN:=hide (show l=addL xs ys by rw [HL.out,show k=6 by omega];rfl)
   go_wp2
   go_ret
   have h:=OW.out;rw [KN.out] at h;exact⟨_,by rw [KN.out];rfl,h,hnx⟩
def rowA (f:Nat->Value)(n:Nat):Array Value:=((List.range n).map f).toArray
theorem Zpg {f:Nat->Value}{n i:Nat}(h:i<n):(rowA f n)[i]? = some (f i):=by
 simp [rowA,h]
theorem Zok (f:Nat->Value)(n i:Nat)(x:Value):(rowA f n).setIfInBounds i x=rowA (fun j=>if j=i then x else f j) n:=by
 apply Array.ext
 ·simp [rowA]
 ·intro j h1 h2
  have hj:j<n:=by simpa [rowA] using h2
  simp [rowA]
  by_cases e:i=j
  ·subst e;simp
  ·have e':¬j=i:=fun h=>e h.symm
   simp [e,e']
theorem Zdt {f g:Nat->Value}{n:Nat}(h:∀ i,i<n->f i=g i):rowA f n=rowA g n:=by
 unfold rowA
 congr 1
 apply List.map_congr_left
 intro i hi;exact h i (List.mem_range.1 hi)
theorem Zfh {W:World}{b n i:Nat}{f:Nat->Value}{t:TypeId}(h:W.heap[b]? = some (.cells (rowA f n) t))(hi:i<n):W.cell? ⟨b,i,none⟩=some (f i):=by
 have e:=Zaa h i;rw [Zpg hi] at e;exact e
theorem Zgc {W:World}{b n i:Nat}{f:Nat->Value}{t:TypeId}(h:W.heap[b]? = some (.cells (rowA f n) t))(x:Value):(W.setCell ⟨b,i,none⟩ x).heap[b]? = some (.cells (rowA (fun j=>if j=i then x else f j) n) t):=by
 have e:=heap_setCell_same W b i _ _ x h;rw [Zok] at e;exact e
theorem ZmU (z:Value)(n:Nat):madeCells #[z] n=rowA (fun _=>z) n:=by
 apply Array.ext
 ·simp [rowA,madeCells]
 ·intro j h1 h2
  simp [rowA,madeCells,Nat.mod_one]
theorem Zb0 {P:Program}(w:World){ops:Array Oper}{rest:List Oper}{o:Oper}{a:Act}{Q:Exit->Act->World->Prop}
  (hg:o.guard=none) (l c:Operand) (t:TypeId) (hop:o.op=Op.makeSlice t l c)
  (e:TypeId) (z:Value) (bytes:Nat) (ht:P.underlying t=some (.slice e)) (hinfo:(P.info? e).map (fun i=>(i.zero,i.size,i.bytes))=some (some z,1,bytes)) (hz1:z.cells=#[z])
  (n:Nat) (hl:a.eval l=.int .i64 (n:Int)) (hc:a.eval c=.int .i64 (n:Int)) (hbytes:bytes*n<=281474976710656) (h63:n<=9223372036854775807)
  (hK:wpList P ops Q rest (a.put o.dst (.slice (some ⟨w.heap.size,0,none⟩) n n)) (w.alloc (.cells (rowA (fun _=>z) n) e))):
  wpList P ops Q (o::rest) a w:=by
 obtain⟨i,hi,hzz⟩:=Option.map_eq_some_iff.1 hinfo;simp only [Prod.mk.injEq] at hzz
 obtain⟨hz,hs,hb⟩:=hzz;refine wpList_make_row w hg l c t hop e i z ht hi hz hs hz1 .i64 .i64 n hl hc (by rw [hb];exact hbytes) h63 ?_
 rw [ZmU];exact hK
def ZdT (ns:List Nr)(bk:Int->Int)(v:Nat):Nat->Int
 | 0=>0
 | k+1=>match ns[k]? with
  | some n=>if n.to=(v:Int)/\inB n.to 1 6=true/\0<bk n.to then n.c else ZdT ns bk v k
  | none=>ZdT ns bk v k
def Zmq (xs:List RecD)(area:Int)(u v:Nat):Int:=ZdT (Zcy xs area u).near (fun b=>Zfl xs area b u) v (Zcy xs area u).near.length
def Zg1 (o:Nat->Nat->Int)(i:Nat):Value:=.int .i64 (o (i / 7) (i%7))
theorem Zkq {W:World}{g:Nat}{o:Nat->Nat->Int} (h:W.heap[g]? = some (.cells (rowA (Zg1 o) 49) 3)) {a b:Nat} (ha:a<=6) (hb:b<=6):W.cell? ⟨g,a*7+b,none⟩=some (.int .i64 (o a b)):=by
 rw [Zfh h (by omega)]
 unfold Zg1;rw [show (a*7+b) / 7=a by omega,show (a*7+b)%7=b by omega]
theorem Zmr {W:World}{g:Nat}{o:Nat->Nat->Int} (h:W.heap[g]? = some (.cells (rowA (Zg1 o) 49) 3)) {a b:Nat} (hb:b<=6) (x:Int):
  (W.setCell ⟨g,a*7+b,none⟩ (.int .i64 x)).heap[g]? = some (.cells (rowA (Zg1 (fun u v=>if u=a/\v=b then x else o u v)) 49) 3):=by
 rw [Zgc h,Zdt (fun i _=>?_)]
 unfold Zg1
 show (if i=a*7+b then Value.int .i64 x else .int .i64 (o (i / 7) (i%7)))=.int .i64 (if i / 7=a/\i%7=b then x else o (i / 7) (i%7))
 by_cases e:i=a*7+b
 ·rw [if_pos e,if_pos (by omega)]
 ·rw [if_neg e,if_neg (by omega)]
theorem Zec {ns:List Nr}{k:Nat}{n:Nr}(bk:Int->Int)(v:Nat)(h:ns[k]? = some n):ZdT ns bk v (k+1)=if n.to=(v:Int)/\inB n.to 1 6=true/\0<bk n.to then n.c else ZdT ns bk v k:=by
 show (match ns[k]? with
  | some n=>if n.to=(v:Int)/\inB n.to 1 6=true/\0<bk n.to then n.c else ZdT ns bk v k
  | none=>ZdT ns bk v k)=_
 rw [h]
theorem ZdQ {x a b:Int}:inB x a b=true↔a<=x/\x<=b:=by simp [inB]
def Zed (xs:List RecD)(area:Int)(k j u v:Nat):Int:=if u<=k then Zmq xs area u v else if u=k+1 then ZdT (Zcy xs area u).near (fun b=>Zfl xs area b u) v j else 0
def Zir (xs:List RecD)(area:Int)(k j:Nat)(o:Nat->Nat->Int):Prop:=∀ u v,1<=u->u<=6->1<=v->v<=6->o u v=Zed xs area k j u v
theorem ZnS {xs:List RecD}{area:Int}{k:Nat}{o:Nat->Nat->Int} (h:Zir xs area k (Zcy xs area ((k+1:Nat):Int)).near.length o):Zir xs area (k+1) 0 o:=by
 intro u v h1 h2 h3 h4;rw [h u v h1 h2 h3 h4];unfold Zed;by_cases e:u<=k
 ·rw [if_pos e,if_pos (by omega)]
 ·rw [if_neg e]
  by_cases e2:u=k+1
  ·rw [if_pos e2,if_pos (by omega)]
   subst e2
   rfl
  ·rw [if_neg e2,if_neg (by omega)]
   split
   ·rfl
   ·rfl
theorem Zkt {xs:List RecD}{area:Int}{k j:Nat}{o:Nat->Nat->Int}{n:Nr}(h:Zir xs area k j o) (hn:(Zcy xs area ((k+1:Nat):Int)).near[j]? = some n) (hno:¬(inB n.to 1 6=true/\0<Zfl xs area n.to ((k+1:Nat):Int))):Zir xs area k (j+1) o:=by
 intro u v h1 h2 h3 h4;rw [h u v h1 h2 h3 h4];unfold Zed;by_cases e:u<=k
 ·rw [if_pos e,if_pos e]
 ·rw [if_neg e,if_neg e]
  by_cases e2:u=k+1
  ·rw [if_pos e2,if_pos e2]
   subst e2;rw [Zec _ v hn,if_neg (fun hc=>hno hc.2)]
  ·rw [if_neg e2,if_neg e2]
theorem Zo0 {xs:List RecD}{area:Int}{k j t:Nat}{o:Nat->Nat->Int}{n:Nr}(h:Zir xs area k j o) (hn:(Zcy xs area ((k+1:Nat):Int)).near[j]? = some n) (hyes:inB n.to 1 6=true/\0<Zfl xs area n.to ((k+1:Nat):Int)) (ht:n.to=(t:Int)):Zir xs area k (j+1) (fun u v=>if u=k+1/\v=t then n.c else o u v):=by
 intro u v h1 h2 h3 h4;have hh:=h u v h1 h2 h3 h4;unfold Zed at hh |-;by_cases e:u<=k
 ·rw [if_pos e] at hh |-
  show (if u=k+1/\v=t then n.c else o u v)=_
  rw [if_neg (by omega)]
  exact hh
 ·rw [if_neg e] at hh |-
  by_cases e2:u=k+1
  ·rw [if_pos e2] at hh |-
   subst e2;rw [Zec _ v hn]
   show (if k+1=k+1/\v=t then n.c else o (k+1) v)=_
   by_cases e3:v=t
   ·rw [if_pos ⟨rfl,e3⟩,if_pos ⟨by omega,hyes⟩]
   ·rw [if_neg (fun hc=>e3 hc.2),if_neg (fun hc=>by have:=hc.1;omega)]
    exact hh
  ·rw [if_neg e2] at hh |-
   show (if u=k+1/\v=t then n.c else o u v)=_
   rw [if_neg (fun hc=>e2 hc.1)]
   exact hh
theorem Zlv (v:Value)(ps:List RP)(hi:Nat)(area:Int)(w:World)(hv:RecsIn w hi v ps)(hhi:hi<=w.heap.size)(hn:tot ps<=1048576):
  Calls Tryz.prog 36 #[v,.int .i64 area] w fun e w'=>∃ o,e=.returned (.slice (some ⟨w.heap.size,0,none⟩) 49 49)/\w'.heap[w.heap.size]? = some (.cells (rowA (Zg1 o) 49) 3)/\(∀ u v,1<=u->u<=6->1<=v->v<=6->o u v=Zmq (fsts ps) area u v)/\Below w.heap.size w w':=by
 obtain⟨a1,c1,rfl⟩:=Zac hv.row;have HN:=hide (fun node W (hb:Below w.heap.size w W)=>ZgQ (.slice a1 ps.length c1) ps hi area node W (hv.below hb hhi) (Nat.le_trans hhi hb.size) hn)
 have HT:=hide (fun a b W (hb:Below w.heap.size w W)=>ZlB (.slice a1 ps.length c1) ps hi area a b W (hv.below hb hhi) (Nat.le_trans hhi hb.size) hn)
 clear hv;have g0:=heap_alloc_new w (.cells (rowA (fun _=>.int .i64 0) 49) 3)
 have B0:Below w.heap.size w (w.alloc (.cells (rowA (fun _=>.int .i64 0) 49) 3)):=(Below.refl _ _).alloc (Nat.le_refl _) _
 go_enter Tryz.func36,Tryz.ntmps36
 go_wp2_with (first | (at_make;refine Zb0 _ rfl _ _ 37 rfl 3 (.int .i64 0) 8 Tryz.underlying37 Tryz.info3 rfl 49 rfl rfl (by omega) (by omega) ?_))
 generalize w.alloc (.cells (rowA (fun _=>.int .i64 0) 49) 3)=w0 at *
 go_wp2
 go_loopw [6] (fun i wr=>∃ (k:Nat) (o:Nat->Nat->Int),k<=6/\i=.int .i64 ((k:Int)+1)/\Hid (Zir (fsts ps) area k 0 o)/\wr.heap[w.heap.size]? = some (.cells (rowA (Zg1 o) 49) 3)/\Below w.heap.size w wr) (fun i _=>8-(intOf i).toNat)
 case atStart=>exact ⟨0,fun _ _=>0,by omega,rfl,hide (fun u v h1 h2 h3 h4=>by unfold Zed;rw [if_neg (by omega)];split <;> rfl),g0,B0⟩
 case round=>
  rename World=>wo
  obtain⟨k,o,hk,rfl,HO,hg,hnx⟩:=hrel;have hsz:=hnx.size;by_cases hlt:k<6
  ·have hk6:(k:Int)+1<=6:=by omega
   have hw1:IntKind.i64.wrap ((k:Int)+1+1)=((k+1:Nat):Int)+1:=by rw [ZaO _ (by omega) (by omega)];omega
   have J:=hide (HN.out ((k:Int)+1) wo hnx);obtain⟨D,hD⟩:∃ D,D=Zcy (fsts ps) area ((k:Int)+1):=⟨_,rfl⟩;obtain⟨NB,hNB⟩:∃ b,b=Zfy (fsts ps) area ((k:Int)+1):=⟨_,rfl⟩;rw [<-hD, <-hNB] at J;have HD:=hide hD;clear hD hNB;unfold recC at J
   go_wp2_with fail
   refine J.out.mono ?_
   rintro e w1 ⟨u,rfl,hu,hul,b1⟩;obtain⟨ua,uc,rfl⟩:=ZaB.shape hu;have hx:=heap_alloc_new w1 (.cells #[.int .i64 D.area,.int .i64 D.kind,.int .i64 D.owner,.int .i64 D.key,.int .i64 D.seq,.slice ua D.near.length uc,.int .i64 D.cost,.bool D.far] 59);have BX:Below w1.heap.size w1 (w1.alloc (.cells #[.int .i64 D.area,.int .i64 D.kind,.int .i64 D.owner,.int .i64 D.key,.int .i64 D.seq,.slice ua D.near.length uc,.int .i64 D.cost,.bool D.far] 59)):=(Below.refl _ _).alloc (Nat.le_refl _) _;obtain⟨w2,hw2⟩:∃ W,W=w1.alloc (.cells #[.int .i64 D.area,.int .i64 D.kind,.int .i64 D.owner,.int .i64 D.key,.int .i64 D.seq,.slice ua D.near.length uc,.int .i64 D.cost,.bool D.far] 59):=⟨_,rfl⟩;rw [<-hw2] at hx BX;have B12:Below wo.heap.size wo w2:=b1.trans (BX.mono b1.size);have B2:Below w.heap.size w w2:=hnx.trans (B12.mono hsz);have HU:Hid (ZaB w2 (.slice ua D.near.length uc) D.near hi):=hide (ZaR.later hu BX (by have:=b1.size;omega))
   have hs2:=Zab hx;have hg2:=(B12.block _ (Zab hg)).trans hg;obtain⟨z,hz⟩:∃ z,z=w1.heap.size:=⟨_,rfl⟩;have HZ:=hide hz;have hzg:w.heap.size<z:=by have:=Zab hg;have:=b1.size;omega
   have HXX:=hide hx;have HG2:=hide hg2;clear hu hx hg hg2 BX b1 J
   go_wp2
   rw [<-hw2];rw [<-hz];rw [<-hz] at HXX hs2;clear hw2 hz
   go_loopw [9] (fun i wr=>∃ (j:Nat) (o:Nat->Nat->Int),j<=D.near.length/\i=.int .i64 (j:Int)/\Hid (Zir (fsts ps) area k j o)/\Hid (wr.heap[w.heap.size]? = some (.cells (rowA (Zg1 o) 49) 3))/\wr.heap[z]? = some (.cells #[.int .i64 D.area,.int .i64 D.kind,.int .i64 D.owner,.int .i64 D.key,.int .i64 D.seq,.slice ua D.near.length uc,.int .i64 D.cost,.bool D.far] 59)/\Below w.heap.size w2 wr) (fun i _=>D.near.length-(intOf i).toNat)
   case atStart=>exact ⟨0,o,by omega,rfl,HO,HG2,HXX.out,Below.refl _ _⟩
   case round=>
    obtain⟨j,o,hj,rfl,HO,HG,hz,hnq⟩:=hrel;have BQ:Below w.heap.size w wr:=B2.trans hnq;have d5:=Zaa hz 5;simp at d5
    have HZZ:=hide hz;clear hz;by_cases hjl:j<D.near.length
    ·obtain ⟨n,hn⟩:∃ n,D.near[j]? = some n:=⟨D.near[j],List.getElem?_eq_getElem hjl⟩
     have hNq:=(ZaR.later HU.out hnq hhi);obtain⟨b,off,cp,hve,hbb,c0,c1⟩:=ZaB.cells hNq j n hn;cases hve
     have hji:(0:Int)<=(j:Int):=by omega
     have hjj:(j:Int)<(D.near.length:Int):=by omega
     have HNJ:=hide hn;clear hn hNq;by_cases hin:inB n.to 1 6=true
     ·obtain ⟨t,ht⟩:∃ t:Nat,n.to=(t:Int):=⟨n.to.toNat,by have:=ZdQ.1 hin;omega⟩
      have ht6:=ZdQ.1 hin;rw [ht] at ht6 c0;have hin':inB (t:Int) 1 6=true:=by rw [<-ht];exact hin
      by_cases hbk:0<Zfl (fsts ps) area (t:Int) ((k:Int)+1)
      ·have hTL:=hide (HT.out (t:Int) ((k:Int)+1) wr BQ)
       go_wp2_with fail
       refine (ZbP _ _ _ _).mono ?_
       rintro e w3 ⟨rfl,rfl⟩;rw [hin']
       go_wp2_with fail
       refine hTL.out.mono ?_
       rintro e w3 ⟨rfl,b3⟩;have hs3:=b3.size;have HMS:=hide (Zo0 HO.out (by rw [<-show (k:Int)+1=((k+1:Nat):Int) by omega, <-HD.out];exact HNJ.out) (by rw [<-show (k:Int)+1=((k+1:Nat):Int) by omega,ht];exact⟨hin',hbk⟩) ht)
       have hg3:=(b3.block _ (Zab HG.out)).trans HG.out;have hz3:=(b3.block _ (Zab HZZ.out)).trans HZZ.out;have B3:Below w.heap.size w2 w3:=hnq.trans (b3.mono BQ.size);have hbq:b<wr.heap.size:=by have:=BQ.size;omega
       rw [<-b3.cell (p:=⟨b,off+j*2,none⟩) hbq] at c0;rw [<-b3.cell (p:=⟨b,off+j*2+1,none⟩) hbq] at c1;rw [<-b3.cell (p:=⟨z,5,none⟩) (Zab HZZ.out)] at d5;have dg:=Zkq hg3 (a:=k+1) (b:=t) (by omega) (by omega)
       have fg:=Zae hg3;have HP:=hide (Zmr hg3 (a:=k+1) (b:=t) (by omega) n.c)
       have HZP:=hide ((heap_setCell_other w3 ⟨w.heap.size,(k+1)*7+t,none⟩ z (.int .i64 n.c) (by show z≠w.heap.size;omega)).trans hz3)
       have BP:=hide (show Below w.heap.size w2 (w3.setCell ⟨w.heap.size,(k+1)*7+t,none⟩ (.int .i64 n.c)) from B3.setCell (p:=⟨w.heap.size,(k+1)*7+t,none⟩) (Nat.le_refl _) _)
       have hm1:IntKind.i64.wrap (((k:Int)+1)*7)=(((k+1)*7:Nat):Int):=by rw [ZaO _ (by omega) (by omega)];omega
       have hm2:IntKind.i64.wrap ((((k+1)*7:Nat):Int)+(t:Int))=(((k+1)*7+t:Nat):Int):=by rw [ZaO _ (by omega) (by omega)];omega
       have hm3:(0:Int)<=(((k+1)*7+t:Nat):Int):=by omega
       have hm4:(((k+1)*7+t:Nat):Int)<49:=by omega
       clear hg3 hz3 hTL HO HG HZZ HU HXX HG2 HN HT
       go_wp2
       go_region
       go_wp2
       go_roundw
       case rel=>exact ⟨j+1,_,by omega,by go_num,HMS,HP,HZP.out,BP.out.trans ⟨rfl,rfl,rfl,Nat.le_refl _,fun _ _=>rfl⟩⟩
       case measure=>simp [intOf];omega
      ·have hTL:=hide (HT.out (t:Int) ((k:Int)+1) wr BQ)
       go_wp2_with fail
       refine (ZbP _ _ _ _).mono ?_
       rintro e w3 ⟨rfl,rfl⟩;rw [hin']
       go_wp2_with fail
       refine hTL.out.mono ?_
       rintro e w3 ⟨rfl,b3⟩;have hs3:=b3.size;have HMS:=hide (Zkt HO.out (by rw [<-show (k:Int)+1=((k+1:Nat):Int) by omega, <-HD.out];exact HNJ.out) (fun hc=>by have h2:=hc.2;rw [show ((k+1:Nat):Int)=(k:Int)+1 by omega,ht] at h2;omega))
       have HG3:=hide ((b3.block _ (Zab HG.out)).trans HG.out);have HZ3:=hide ((b3.block _ (Zab HZZ.out)).trans HZZ.out);have B3:Below w.heap.size w2 w3:=hnq.trans (b3.mono BQ.size)
       go_wp2
       go_roundw
       case rel=>exact ⟨j+1,o,by omega,by go_num,HMS,HG3,HZ3.out,B3⟩
       case measure=>simp [intOf];omega
     ·have hin':inB n.to 1 6=false:=by simpa using hin
      have HMS:=hide (Zkt HO.out (by rw [<-show (k:Int)+1=((k+1:Nat):Int) by omega, <-HD.out];exact HNJ.out) (fun hc=>hin hc.1))
      go_wp2_with fail
      refine (ZbP _ _ _ _).mono ?_
      rintro e w3 ⟨rfl,rfl⟩;rw [hin']
      go_wp2
      go_roundw
      case rel=>exact ⟨j+1,o,by omega,by go_num,HMS,HG,HZZ.out,hnq⟩
      case measure=>simp [intOf];omega
    ·have hjn:j=D.near.length:=by omega
     have HMN:=hide (ZnS (k:=k) (o:=o) (by rw [<-show (k:Int)+1=((k+1:Nat):Int) by omega, <-HD.out, <-hjn];exact HO.out))
     clear hjn
     go_wp2
     go_roundw
     case rel=>exact ⟨k+1,o,by omega,rfl,HMN,HG.out,BQ⟩
     case measure=>simp [intOf];omega
  ·have hk6:¬(k:Int)+1<=6:=by omega
   have KN:=hide (show ∀ u v,1<=u->u<=6->1<=v->v<=6->o u v=Zmq (fsts ps) area u v by
    intro u v h1 h2 h3 h4;rw [HO.out u v h1 h2 h3 h4];unfold Zed;rw [if_pos (by omega)])
   go_wp2
   go_ret
   first
    | exact ⟨rfl,o,hg,KN.out,hnx⟩
    | exact ⟨o,rfl,hg,KN.out,hnx⟩
end Go.Proofs.YtgdgkgmjpnbbcaaGreat
