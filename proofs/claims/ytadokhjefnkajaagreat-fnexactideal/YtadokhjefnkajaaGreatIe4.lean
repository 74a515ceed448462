/-
  StructKit BoolK RowA SortK Open4 Open2 Lk NearK AppK IntK OpenN RowAt RecK WayK AppOne OpenBol
-/
import Derived.Test.YtadokhjefnkajaaGreatIe3
import Derived.OwnWalk
import Derived.Deep.QuietTactic
import Derived.BigQuiet
import Derived.Handy
import Derived.Deep.OwnRows
import Derived.Test.YtadokhjefnkajaaGreatIe1
import Derived.Lib.OwnBridge
import Derived.Sort.OwnSortedInts
import Derived.Deep.Slices
import Derived.ChangeSame
import Derived.OpenShut
import Derived.Deep.RegionHeld3
import Derived.WalkSmall
namespace Go.Proofs.YtadokhjefnkajaaGreat
open Go.RowKit
set_option linter.unusedSimpArgs false
set_option linter.unusedVariables false
set_option maxRecDepth 100000
set_option maxHeartbeats 8000000
theorem Zbm {p:Prop} [Decidable p](h:¬p):Ending.returned (.bool false)=.returned (.bool (decide p)):=by rw [decide_eq_false h]
theorem ZbR {p:Prop} [Decidable p](h:p):Ending.returned (.bool true)=.returned (.bool (decide p)):=by rw [decide_eq_true h]
theorem Zas {w:World}(o1 o2:Obj):Below w.heap.size w ((w.alloc o1).alloc o2):=((Below.refl _ _).alloc (Nat.le_refl _) _).alloc (by simp) _
theorem Zcc {w:World}(o1 o2 o3:Obj):Below w.heap.size w (((w.alloc o1).alloc o2).alloc o3):=(Zas o1 o2).alloc (by simp;omega) _
theorem ZbZ {α:Type}{enc:α->List Value}{sz:Nat}(hsz:∀ a,(enc a).length=sz)(hpos:0<sz){P:Program}(w:World){ops:Array Oper}{rest:List Oper}{o:Oper}{a:Act}{Q:Exit->Act->World->Prop}
  (hg:o.guard=none) (l c:Operand) (t:TypeId) (hop:o.op=Op.makeSlice t l c) (base:Nat) (e:TypeId) (i:TypeInfo) (z:Value) (x:α) (hz:z.cells.toList=enc x)
  (h1:P.underlying t=some (.slice e)) (h2:P.info? e=some i) (h3:i.zero=some z) (h4:i.size=sz) (n:Nat) (hl:a.eval l=.int .i64 (n:Int)) (hc:a.eval c=.int .i64 (n:Int)) (b2:i.bytes*n<=281474976710656) (b3:n<=maxLen) (b4:base<=w.heap.size)
  (hK:∀ w',w'.ownsRow base e sz (.slice (some ⟨w.heap.size,0,none⟩) n n) n (flat enc (List.replicate n x))->w.grownBy w' none->wpList P ops Q rest (a.put o.dst (.slice (some ⟨w.heap.size,0,none⟩) n n)) w'):
  wpList P ops Q (o::rest) a w:=
 wpList_make_full w hg l c t hop base e i z sz h1 h2 h3 h4 .i64 .i64 (n:Int) (n:Int) n hl hc rfl rfl b2 b3 b4 (fun w' k1 k2=>hK w' (by rw [<-Zm6 hsz z.cells x hz hpos];exact k1) k2)
def part {α:Type}(xs:List α)(z:α)(k:Nat):List α:=xs.take k++List.replicate (xs.length-k) z
theorem Zh5 {α:Type}(xs:List α)(z:α)(k:Nat)(h:k<=xs.length):(part xs z k).length=xs.length:=by simp [part];omega
theorem Zgo {α:Type}(xs:List α)(z x:α)(k:Nat)(h:xs[k]? = some x):(part xs z k).set k x=part xs z (k+1):=by
 obtain⟨hk,e⟩:=List.getElem?_eq_some_iff.1 h;unfold part;rw [List.set_append_right _ _ (by simp;omega),List.length_take,Nat.min_eq_left (by omega),Nat.sub_self]
 have e2:xs.length-k=(xs.length-(k+1))+1:=by omega
 rw [e2,List.replicate_succ,List.set_cons_zero,List.take_succ_eq_append_getElem hk,e];simp
theorem Zh4 {α:Type}(xs:List α)(z:α):part xs z xs.length=xs:=by simp [part]
theorem ZoA {α:Type}{xs ys:List α}{k:Nat}{x y:α}(hx:xs[k]? = some x)(hy:ys[k]? = some y)(h:x≠y):¬xs=ys:=by
 rintro rfl;rw [hx] at hy;exact h (Option.some.inj hy)
theorem ZkC {α:Type}{xs ys:List α}(hl:xs.length=ys.length)(h:∀ j,j<xs.length->xs[j]? = ys[j]?):xs=ys:=by
 apply List.ext_getElem?
 intro i;by_cases hi:i<xs.length
 ·exact h i hi
 ·rw [List.getElem?_eq_none (by omega),List.getElem?_eq_none (by omega)]
theorem ZjG (w:World)(a b c:Obj):(((w.alloc a).alloc b).alloc c).heap[w.heap.size]? = some a:=by
 rw [Below.heap_alloc _ _ _ (by simp;omega),Below.heap_alloc _ _ _ (by simp),heap_alloc_new]
theorem ZjH (w:World)(a b c:Obj):(((w.alloc a).alloc b).alloc c).heap[w.heap.size+1]? = some b:=by
 rw [Below.heap_alloc _ _ _ (by simp)]
 have:=heap_alloc_new (w.alloc a) b
 simpa using this
theorem ZjI (w:World)(a b c:Obj):(((w.alloc a).alloc b).alloc c).heap[w.heap.size+1+1]? = some c:=by
 have:=heap_alloc_new ((w.alloc a).alloc b) c
 simpa using this
theorem Zai {a b:Bool}(h:b=a):Ending.returned (.bool a)=.returned (.bool b):=by rw [h]
def blE (b:Bool):List Value:=[.bool b]
theorem Zhz (b:Bool):(blE b).length=1:=rfl
def Zba (W:World)(v:Value)(bs:List Bool)(B:Nat):Prop:=ZaN blE 1 W v bs B
theorem Zba.shape {W:World}{v:Value}{bs:List Bool}{B:Nat}(h:Zba W v bs B):∃ a cap,v=.slice a bs.length cap:=by obtain ⟨a,cap,h,_⟩:=h;exact⟨a,cap,h⟩
theorem Zba.cell {W:World}{v:Value}{bs:List Bool}{B:Nat}(h:Zba W v bs B)(i:Nat)(b:Bool)(hb:bs[i]? = some b):∃ g off cap,v=.slice (some ⟨g,off,none⟩) bs.length cap/\g<B/\W.cell? ⟨g,off+i,none⟩=some (.bool b):=by
 obtain⟨g,off,cap,hv,hg,hc⟩:=ZaN.cell h Zhz i b hb;refine⟨g,off,cap,hv,hg,?_⟩
 have:=hc 0 _ rfl
 simpa using this
def rowA (f:Nat->Value)(n:Nat):Array Value:=((List.range n).map f).toArray
theorem ZpT {f:Nat->Value}{n i:Nat}(h:i<n):(rowA f n)[i]? = some (f i):=by
 simp [rowA,h]
theorem Zo0 (f:Nat->Value)(n i:Nat)(x:Value):(rowA f n).setIfInBounds i x=rowA (fun j=>if j=i then x else f j) n:=by
 apply Array.ext
 ·simp [rowA]
 ·intro j h1 h2
  have hj:j<n:=by simpa [rowA] using h2
  simp [rowA]
  by_cases e:i=j
  ·subst e;simp
  ·have e':¬j=i:=fun h=>e h.symm
   simp [e,e']
theorem Zdc {f g:Nat->Value}{n:Nat}(h:∀ i,i<n->f i=g i):rowA f n=rowA g n:=by
 unfold rowA
 congr 1
 apply List.map_congr_left
 intro i hi;exact h i (List.mem_range.1 hi)
theorem Ze1 {W:World}{b n i:Nat}{f:Nat->Value}{t:TypeId}(h:W.heap[b]? = some (.cells (rowA f n) t))(hi:i<n):W.cell? ⟨b,i,none⟩=some (f i):=by
 have e:=Zaa h i;rw [ZpT hi] at e;exact e
theorem ZfK {W:World}{b n i:Nat}{f:Nat->Value}{t:TypeId}(h:W.heap[b]? = some (.cells (rowA f n) t))(x:Value):(W.setCell ⟨b,i,none⟩ x).heap[b]? = some (.cells (rowA (fun j=>if j=i then x else f j) n) t):=by
 have e:=heap_setCell_same W b i _ _ x h;rw [Zo0] at e;exact e
theorem Znw (z:Value)(n:Nat):madeCells #[z] n=rowA (fun _=>z) n:=by
 apply Array.ext
 ·simp [rowA,madeCells]
 ·intro j h1 h2
  simp [rowA,madeCells,Nat.mod_one]
theorem ZbX {P:Program}(w:World){ops:Array Oper}{rest:List Oper}{o:Oper}{a:Act}{Q:Exit->Act->World->Prop}
  (hg:o.guard=none) (l c:Operand) (t:TypeId) (hop:o.op=Op.makeSlice t l c)
  (e:TypeId) (z:Value) (bytes:Nat) (ht:P.underlying t=some (.slice e)) (hinfo:(P.info? e).map (fun i=>(i.zero,i.size,i.bytes))=some (some z,1,bytes)) (hz1:z.cells=#[z])
  (n:Nat) (hl:a.eval l=.int .i64 (n:Int)) (hc:a.eval c=.int .i64 (n:Int)) (hbytes:bytes*n<=281474976710656) (h63:n<=9223372036854775807)
  (hK:wpList P ops Q rest (a.put o.dst (.slice (some ⟨w.heap.size,0,none⟩) n n)) (w.alloc (.cells (rowA (fun _=>z) n) e))):
  wpList P ops Q (o::rest) a w:=by
 obtain⟨i,hi,hzz⟩:=Option.map_eq_some_iff.1 hinfo;simp only [Prod.mk.injEq] at hzz
 obtain⟨hz,hs,hb⟩:=hzz;refine wpList_make_row w hg l c t hop e i z ht hi hz hs hz1 .i64 .i64 n hl hc (by rw [hb];exact hbytes) h63 ?_
 rw [Znw];exact hK
end Go.Proofs.YtadokhjefnkajaaGreat
namespace Go.Proofs.YtadokhjefnkajaaGreat
open Go.RowKit

open Go.Sort Go.Lib in
theorem Zo6 (base:Nat)(u:Value)(zs:List Int)(w:World)(hown:w.ownsRow base 3 1 u zs.length (Za5 zs))(hz:zs.length<=1000000000):
  Calls Tryz.prog 274 #[u] w fun e w'=>e=.returned (.tuple #[])/\w'.ownsRow base 3 1 u (zs.mergeSort fun x y=>decide (x<=y)).length (Za5 (zs.mergeSort fun x y=>decide (x<=y)))/\(∀ B w0,B<=base->Below B w0 w->Below B w0 w'):=by
 by_cases h0:zs=[]
 ·subst h0
  obtain⟨a,cap,rfl⟩:=Zcs hown;refine (Tryz.slices_Sort_int_none a cap w).mono ?_
  rintro e w' ⟨rfl,rfl⟩;exact⟨rfl,by simpa using hown,fun _ _ _ h=>h⟩
 ·have hne:0<zs.length:=List.length_pos_iff.2 h0
  obtain⟨g,cap,hv,hg,hlt,hnc,hcm,_,hH⟩:=holds_of_ownsRow (enc:=Value.int .i64) hown (fun e=>by
   obtain⟨g,cp,e2,_⟩:=ZdZ hown hne;rw [e2] at e;cases e)
  subst hv;have hh:=hown.2
  rcases hh with ⟨e0,_⟩ | ⟨g',cap',cur,e0,_,hc,_,_,hs,_⟩
  ·cases e0
  ·cases e0
   refine (Tryz.slices_Sort_int g 0 cap zs w hH hlt (by omega)).mono ?_
   rintro e w' ⟨rfl,n,os,rfl⟩;have hl:(zs.mergeSort fun x y=>decide (x<=y)).length=zs.length:=List.length_mergeSort _
   refine⟨rfl,?_,fun B w0 hB h=>h.grown (grownBy_sortedI _) (by omega) (fun k hk=>by simp at hk;omega)⟩
   rw [hl];exact ownsRow_sortedI hl hg hc hnc hcm hs

open Go.Sort Go.Lib in
theorem Zjw (base:Nat)(u:Value)(zs:List Int)(w:World)(hown:w.ownsRow base 3 1 u zs.length (Za5 zs))(hz:zs.length<=1000000000):
  Calls Tryz.prog 275 #[u] w fun e w'=>∃ x,e=.returned x/\w'.ownsRow base 3 1 x (Lib.compact zs).length (Za5 (Lib.compact zs))/\(∀ B w0,B<=base->Below B w0 w->Below B w0 w'):=by
 by_cases h0:zs=[]
 ·subst h0
  obtain⟨a,cap,rfl⟩:=Zcs hown;refine (Tryz.slices_Compact_int_empty a cap w).mono ?_
  rintro e w' ⟨rfl,rfl⟩;exact⟨_,rfl,by simpa [Lib.compact,Lib.compactUpTo] using hown,fun _ _ _ h=>h⟩
 ·have hne:0<zs.length:=List.length_pos_iff.2 h0
  obtain⟨g,cap,hv,hg,hlt,hnc,hcm,_,hH⟩:=holds_of_ownsRow (enc:=Value.int .i64) hown (fun e=>by
   obtain⟨g,cp,e2,_⟩:=ZdZ hown hne;rw [e2] at e;cases e)
  subst hv;refine (Tryz.slices_Compact_int g 0 cap zs w hH (by omega) hnc).mono ?_
  rintro e w' ⟨rfl,q,rfl⟩;have hle:=Lib.compact_length_le zs;have ho:=ownsRow_putRow (q:=q) (k:=(Lib.compact zs).length) (ys:=Lib.compact zs++List.replicate (zs.length-(Lib.compact zs).length) 0) hown (by simp;omega) hle
  rw [List.take_append_of_le_length (Nat.le_refl _),List.take_length] at ho;exact⟨_,rfl,ho,fun B w0 hB h=>below_putRow h (by omega)⟩

theorem Zif (d:Array Int):∀ (m j:Nat),j<m->d[j]! ∈ Lib.compactUpTo d m
 | 0,j,h=>by omega
 | m+1,j,h=>by
  rw [Lib.compactUpTo_succ];by_cases hj:j<m
  ·exact List.mem_append_left _ (Zif d m j hj)
  ·obtain rfl:j=m:=by omega
   by_cases hk:Lib.keeps d j=true
   ·rw [if_pos hk];simp
   ·have hk2:¬(j=0\/d[j]! ≠ d[j-1]!):=by simpa [Lib.keeps] using hk
    have h0:0<j:=by omega
    have he:d[j]! = d[j-1]! := by
     by_cases e:d[j]! = d[j-1]!
     ·exact e
     ·exact absurd (Or.inr e) hk2
    rw [he];exact List.mem_append_left _ (Zif d j (j-1) (by omega))

theorem Zj1 {zs:List Int}{x:Int}:x∈Lib.compact zs↔x∈zs:=by
 constructor
 ·intro h
  simp only [Lib.compact,Lib.compactUpTo,List.mem_map,List.mem_filter,List.mem_range] at h
  obtain⟨j,⟨hj,_⟩,rfl⟩:=h;have:zs.toArray[j]! = zs[j]:=by simp [hj]
  rw [this];exact List.getElem_mem hj
 ·intro h
  obtain⟨j,hj,rfl⟩:=List.mem_iff_getElem.1 h;have e:zs[j]=zs.toArray[j]! := by simp [hj]
  rw [e];exact Zif _ _ j hj

theorem Zlf (d:Array Int)(n:Nat)(hs:∀ i j,i<=j->j<n->d[i]! <= d[j]!):∀ m,m<=n->(Lib.compactUpTo d m).Pairwise (· < ·)
 | 0,_=>by simp [Lib.compactUpTo]
 | m+1,h=>by
  rw [Lib.compactUpTo_succ,List.pairwise_append];refine⟨Zlf d n hs m (by omega),by split <;> simp,fun x hx y hy=>?_⟩
  simp only [Lib.compactUpTo,List.mem_map,List.mem_filter,List.mem_range] at hx
  obtain⟨j,⟨hj,_⟩,rfl⟩:=hx
  split at hy
  ·rename_i hk
   have e:y=d[m]! := by simpa using hy
   subst e;have hk2:m=0\/d[m]! ≠ d[m-1]! := by simpa [Lib.keeps] using hk
   have h1:=hs j (m-1) (by omega) (by omega)
   have h2:=hs (m-1) m (by omega) (by omega)
   rcases hk2 with h3 | h3
   ·omega
   ·omega
  ·cases hy

theorem Zl6 {zs:List Int}(hp:zs.Pairwise (fun a b=>decide (a<=b)=true)):∀ i j,i<=j->j<zs.length->zs.toArray[i]! <= zs.toArray[j]! := by
 intro i j hij hj;have hi:i<zs.length:=by omega
 have e1:zs.toArray[i]! = zs[i]:=by simp [hi]
 have e2:zs.toArray[j]! = zs[j]:=by simp [hj]
 rw [e1,e2];by_cases e:i=j
 ·subst e;exact Int.le_refl _
 ·have:=List.pairwise_iff_getElem.1 hp i j hi hj (by omega)
  simpa using this

def Zdj (a b:List Int):List Int:=Lib.compact ((a++b).mergeSort fun x y=>decide (x<=y))

theorem Zf5 {a b:List Int}{x:Int}:x∈Zdj a b↔x∈a\/x∈b:=by
 unfold Zdj;rw [Zj1,List.mem_mergeSort,List.mem_append]

theorem ZiO (a b:List Int):(Zdj a b).Pairwise (· < ·):=by
 unfold Zdj Lib.compact;refine Zlf _ _ ?_ _ (Nat.le_refl _)
 have hp:=List.pairwise_mergeSort (le:=fun x y:Int=>decide (x<=y)) (fun a b c h1 h2=>by simp at h1 h2 |-;omega) (fun a b=>by simp;omega) (a++b)
 exact Zl6 hp

end Go.Proofs.YtadokhjefnkajaaGreat
namespace Go.Proofs.YtadokhjefnkajaaGreat
open Go.RowKit Go.ChangeShapes Go.WideShapes

section
variable {H:Type} {enc:TypeId × Value->H} {P:Program} {w:World} {base:Nat} {spare:Nat->Bool} {held:Bool}

theorem Zmi {a:Addr}(h:a.spot=none)(j:Nat):a.add j=⟨a.block,a.off+j,none⟩:=by
 obtain⟨b,o,s⟩:=a;simp at h
 subst h;simp only [Addr.add]
 split <;> simp_all

theorem Zi1 {e:TypeId}{f0 f1 f2 f3:Field}{fuel:Nat}{cs:List Value}{x:DataW H × List MemPlace}(he:P.underlying e=some (.struct #[f0,f1,f2,f3]))(ce:P.cellsOf e=4)
  (o0:f0.offset=0) (o1:f1.offset=1) (o2:f2.offset=2) (o3:f3.offset=3) (c0:P.cellsOf f0.type=1) (c1:P.cellsOf f1.type=1) (c2:P.cellsOf f2.type=1) (c3:P.cellsOf f3.type=1)
  (h:DataW.trod enc P w base spare held fuel e cs=some x):
  ∃ v0 v1 v2 v3 n y0 y1 y2 y3,cs=[v0,v1,v2,v3]/\DataW.trod enc P w base spare held n f0.type [v0]=some y0/\DataW.trod enc P w base spare held n f1.type [v1]=some y1 /\
   DataW.trod enc P w base spare held n f2.type [v2]=some y2/\DataW.trod enc P w base spare held n f3.type [v3]=some y3:=by
 obtain⟨xs,k,hk,hxy,hcl,hxl,hf⟩:=DataW.trod_struct he h;rw [ce] at hcl
 match xs,hxl,cs,hcl with
 | [y0,y1,y2,y3],_,[v0,v1,v2,v3],_=>
  have g0:=hf 0 f0 rfl;have g1:=hf 1 f1 rfl;have g2:=hf 2 f2 rfl;have g3:=hf 3 f3 rfl;simp [o0,o1,o2,o3,c0,c1,c2,c3] at g0 g1 g2 g3
  exact⟨v0,v1,v2,v3,k,y0,y1,y2,y3,rfl,g0,g1,g2,g3⟩

theorem Zfs {α:Type} [Inhabited α]{encE:α->List Value}(hsz:∀ a,(encE a).length=4){t e:TypeId}{fuel:Nat}{cs:List Value}{x:DataW H × List MemPlace}(ht:P.underlying t=some (.slice e))(ce:P.cellsOf e=4)
  (hel:∀ fuel cs x,DataW.trod enc P w base spare held fuel e cs=some x->∃ a:α,cs=encE a) (h:DataW.trod enc P w base spare held fuel t cs=some x):
  ∃ v xs,cs=[v]/\ZaN encE 4 w v xs w.heap.size/\xs.length<=maxLen:=by
 rcases Go.Deep.open_slice ht h with ⟨h0,_⟩ | ⟨a,len,cap,m,n,D,Pl,rfl,hb,hlc,hcm,hmm,_,hx⟩
 ·exact ⟨_,[],h0,⟨none,0,rfl,.inl rfl⟩,by simp⟩
 ·have hlm:len<=m:=by rw [hmm];split <;> omega
  have each:∀ i,i<len->∃ q:α,∀ r u,(encE q)[r]? = some u->w.cell? (a.add (i*4+r))=some u:=by
   intro i hi;obtain⟨cs',h1,h2⟩:=hx i (by omega)
   rw [ce] at h1;obtain⟨_,hlen,hcell⟩:=World.cells?_some h1;obtain⟨q,rfl⟩:=hel _ _ _ h2;refine⟨q,fun r u hu=>?_⟩
   have hr:r<4:=by have:=(List.getElem?_eq_some_iff.1 hu).1;rw [hsz] at this;exact this
   rw [<-Go.Deep.add_add,hcell r hr,hu]
  obtain⟨q,hq⟩:=Go.Deep.choose_lt each;refine⟨_,(List.range len).map q,rfl,?_,by simp;omega⟩
  have hl:((List.range len).map q).length=len:=by simp
  unfold ZaN ZaE;rw [hl];refine⟨_,cap,rfl,?_⟩
  by_cases hl0:len=0
  ·exact .inl hl0
  ·right
   have hsp:a.spot=none:=by
    have hu:(encE (q 0))[0]? = some ((encE (q 0))[0]'(by rw [hsz];omega)):=List.getElem?_eq_getElem _
    have:=World.cell?_spot (hq 0 (by omega) 0 _ hu)
    simpa [Addr.add] using this
   have hblk:a.block<w.heap.size:=by
    have hu:(encE (q 0))[0]? = some ((encE (q 0))[0]'(by rw [hsz];omega)):=List.getElem?_eq_getElem _
    have:=World.block_lt_of_cell? w _ (hq 0 (by omega) 0 _ hu)
    simpa [Addr.add] using this
   refine⟨a.block,a.off,by obtain ⟨b,o,s⟩:=a;simp at hsp;rw [hsp],hblk,fun j hj=>?_⟩
   have e:j=j / 4*4+j%4:=by omega
   have hd:j / 4<len:=by omega
   have hm4:j%4<4:=by omega
   have hg:=ZcV hsz ((List.range len).map q) (j / 4) (j%4) (q (j / 4)) (by simp [hd]) hm4
   have hu:(encE (q (j / 4)))[j%4]? = some ((encE (q (j / 4)))[j%4]'(by rw [hsz];exact hm4)):=List.getElem?_eq_getElem _
   have:=hq (j / 4) hd (j%4) _ hu;rw [<-e,Zmi hsp] at this;rw [this];rw [<-e] at hg;simp only [List.getD_eq_getElem?_getD,hg,hu]
   rfl
end
end Go.Proofs.YtadokhjefnkajaaGreat
namespace Go.Proofs.YtadokhjefnkajaaGreat
open Go.RowKit Go.ChangeShapes Go.WideShapes

section
variable {H:Type} {enc:TypeId × Value->H} {P:Program} {w:World} {base:Nat} {spare:Nat->Bool} {held:Bool}

theorem ZnY {a:Addr}(h:a.spot=none)(j:Nat):a.add j=⟨a.block,a.off+j,none⟩:=by
 obtain⟨b,o,s⟩:=a;simp at h
 subst h;simp only [Addr.add]
 split <;> simp_all

end
end Go.Proofs.YtadokhjefnkajaaGreat
namespace Go.Proofs.YtadokhjefnkajaaGreat
open Go.RowKit
set_option linter.unusedSimpArgs false
set_option linter.unusedVariables false
set_option maxRecDepth 100000
set_option maxHeartbeats 8000000
structure Lk where
 a:Int
 b:Int
 c:Int
 r:Int
 deriving DecidableEq
structure Th where
 o:Int
 k:Int
 c:Int
 f:Bool
 deriving DecidableEq
def lkV (l:Lk):Value:=.agg #[.int .i64 l.a,.int .i64 l.b,.int .i64 l.c,.int .i64 l.r]
def thV (t:Th):Value:=.agg #[.int .i64 t.o,.int .i64 t.k,.int .i64 t.c,.bool t.f]
theorem Zmc (l:Lk)(w:World):Calls Tryz.prog 177 #[lkV l] w fun e w'=>e=.returned (lkV l)/\Below w.heap.size w w':=by
 obtain⟨a,b,c,r⟩:=l;unfold lkV
 go_enter Tryz.func177,Tryz.ntmps177
 go_wp2
 go_returns
 exact⟨rfl,Zcc _ _ _⟩
theorem Zkm (l:Th)(w:World):Calls Tryz.prog 178 #[thV l] w fun e w'=>e=.returned (thV l)/\Below w.heap.size w w':=by
 obtain⟨a,b,c,r⟩:=l;unfold thV
 go_enter Tryz.func178,Tryz.ntmps178
 go_wp2
 go_returns
 exact⟨rfl,Zcc _ _ _⟩
theorem Zln (l m:Lk)(w:World):Calls Tryz.prog 180 #[lkV l,lkV m] w fun e w'=>e=.returned (.bool (decide (l=m)))/\Below w.heap.size w w':=by
 obtain⟨a,b,c,r⟩:=l;obtain⟨a',b',c',r'⟩:=m;unfold lkV
 go_enter Tryz.func180,Tryz.ntmps180
 go_wp2
 all_goals go_returns
 all_goals refine ⟨?_,Zas _ _⟩
 all_goals first
  | exact Zbm (fun h=>by cases h;simp_all)
  | exact ZbR (by simp_all)
theorem ZjB (l m:Th)(w:World):Calls Tryz.prog 181 #[thV l,thV m] w fun e w'=>e=.returned (.bool (decide (l=m)))/\Below w.heap.size w w':=by
 obtain⟨a,b,c,r⟩:=l;obtain⟨a',b',c',r'⟩:=m;unfold thV
 go_enter Tryz.func181,Tryz.ntmps181
 go_wp2
 all_goals go_returns
 all_goals refine ⟨?_,Zas _ _⟩
 all_goals first
  | exact Zbm (fun h=>by cases h;simp_all)
  | exact ZbR (by simp_all)
structure Nr where
 to:Int
 c:Int
 deriving DecidableEq
instance:Inhabited Nr:=⟨⟨0,0⟩⟩
def nrV (l:Nr):Value:=.agg #[.int .i64 l.to,.int .i64 l.c]
def nrE (l:Nr):List Value:=[.int .i64 l.to,.int .i64 l.c]
theorem Zgl (l:Nr):(nrE l).length=2:=rfl
def ZaC (W:World)(v:Value)(ls:List Nr)(B:Nat):Prop:=ZaN nrE 2 W v ls B
theorem ZaC.then {W W':World}{v:Value}{ls:List Nr}(h:ZaC W v ls W.heap.size)(hb:Below W.heap.size W W'):ZaC W' v ls W'.heap.size:=ZaE.then h hb
theorem ZaC.shape {W:World}{v:Value}{ls:List Nr}{B:Nat}(h:ZaC W v ls B):∃ a cap,v=.slice a ls.length cap:=by obtain ⟨a,cap,h,_⟩:=h;exact⟨a,cap,h⟩
theorem ZaC.cells {W:World}{v:Value}{ls:List Nr}{B:Nat}(h:ZaC W v ls B)(i:Nat)(l:Nr)(hl:ls[i]? = some l):
  ∃ b off cap,v=.slice (some ⟨b,off,none⟩) ls.length cap/\b<B/\W.cell? ⟨b,off+i*2,none⟩=some (.int .i64 l.to)/\W.cell? ⟨b,off+i*2+1,none⟩=some (.int .i64 l.c):=by
 obtain⟨b,off,cap,hv,hb,hc⟩:=ZaN.cell h Zgl i l hl;exact⟨b,off,cap,hv,hb,hc 0 _ rfl,hc 1 _ rfl⟩
theorem Zlo (l m:Nr)(w:World):Calls Tryz.prog 223 #[nrV l,nrV m] w fun e w'=>e=.returned (.bool (decide (l=m)))/\Below w.heap.size w w':=by
 obtain⟨a,b⟩:=l;obtain⟨a',b'⟩:=m;unfold nrV
 go_enter Tryz.func223,Tryz.ntmps223
 go_wp2
 all_goals go_returns
 all_goals refine ⟨?_,Zas _ _⟩
 all_goals first
  | exact Zbm (fun h=>by cases h;simp_all)
  | exact ZbR (by simp_all)
def nr0:Nr:=⟨0,0⟩
theorem Tryz.infoNr:(Tryz.prog.info? 107).map (fun i=>(i.zero,i.size,i.bytes))=some (some (nrV nr0),2,16):=by kernel_rfl
theorem ZjA (v1 v2:Value)(xs ys:List Nr)(w:World)(h1:ZaC w v1 xs w.heap.size)(h2:ZaC w v2 ys w.heap.size)(hn:xs.length<=1048576):
  Calls Tryz.prog 174 #[v1,v2] w fun e w'=>e=.returned (.bool (decide (xs=ys)))/\Below w.heap.size w w':=by
 obtain⟨a1,c1,rfl⟩:=h1.shape;obtain⟨a2,c2,rfl⟩:=h2.shape;by_cases hl:xs.length=ys.length
 ·have K1:=hide h1
  have K2:=hide h2;have HLN:=hide hl;rw [<-hl];clear h1 h2 hl
  go_enter Tryz.func174,Tryz.ntmps174
  go_wp2
  go_loopw [5] (fun i wr=>∃ k:Nat,k<=xs.length/\i=.int .i64 k/\(∀ j,j<k->xs[j]? = ys[j]?)/\Below w.heap.size w wr) (fun i _=>xs.length-(intOf i).toNat)
  case atStart=>exact ⟨0,by omega,rfl,by omega,Below.refl _ _⟩
  case round=>
   obtain⟨k,hk,rfl,hall,hnx⟩:=hrel;have HALL:=hide hall;clear hall;by_cases hlt:k<xs.length
   ·obtain ⟨x,hx⟩:∃ l,xs[k]? = some l:=⟨xs[k],List.getElem?_eq_getElem hlt⟩
    obtain⟨y,hy⟩:∃ l,ys[k]? = some l:=⟨ys[k],List.getElem?_eq_getElem (by have:=HLN.out;omega)⟩
    obtain⟨b1,o1,cp1,hv1,hb1,c0,c1'⟩:=K1.out.cells k x hx;obtain⟨b2,o2,cp2,hv2,hb2,d0,d1⟩:=K2.out.cells k y hy;cases hv1
    cases hv2
    rw [<-hnx.cell (p:=⟨b1,o1+k*2,none⟩) hb1] at c0;rw [<-hnx.cell (p:=⟨b1,o1+k*2+1,none⟩) hb1] at c1';rw [<-hnx.cell (p:=⟨b2,o2+k*2,none⟩) hb2] at d0;rw [<-hnx.cell (p:=⟨b2,o2+k*2+1,none⟩) hb2] at d1;have hzr:=hnx.size;have hb1':b1<wr.heap.size:=by omega
    have hb2':b2<wr.heap.size:=by omega
    have hki:(0:Int)<=(k:Int):=by omega
    have hkj:(k:Int)<(xs.length:Int):=by omega
    have hq:=Zlo x y;unfold nrV at hq;obtain⟨q,hqq⟩:∃ q,q=decide (x=y):=⟨_,rfl⟩;rw [<-hqq] at hq;have HQ:=hide hq;have HQQ:=hide hqq;have HX:=hide hx;have HY:=hide hy;clear hq hqq hx hy;cases q
    ·go_wp2
     go_region_held3 (fun W=>W.cell? ⟨b1,o1+k*2,none⟩=some (.int .i64 x.to)/\W.cell? ⟨b1,o1+k*2+1,none⟩=some (.int .i64 x.c)/\W.cell? ⟨b2,o2+k*2,none⟩=some (.int .i64 y.to)/\W.cell? ⟨b2,o2+k*2+1,none⟩=some (.int .i64 y.c)) (first | go_keep | (refine ⟨?_,?_,?_,?_⟩ <;> (rw [hbc.cell (by assumption)];assumption))) (first | (go_at_call 223;refine (HQ.out _).mono ?_;rintro e w1 ⟨rfl,hbc⟩))
     go_wp2
     go_ret
     exact⟨Zbm (ZoA HX.out HY.out (of_decide_eq_false HQQ.out.symm)),hnx.trans ((Below.refl _ _).drew.trans (hbc.mono hzr))⟩
    ·go_wp2
     go_region_held3 (fun W=>W.cell? ⟨b1,o1+k*2,none⟩=some (.int .i64 x.to)/\W.cell? ⟨b1,o1+k*2+1,none⟩=some (.int .i64 x.c)/\W.cell? ⟨b2,o2+k*2,none⟩=some (.int .i64 y.to)/\W.cell? ⟨b2,o2+k*2+1,none⟩=some (.int .i64 y.c)) (first | go_keep | (refine ⟨?_,?_,?_,?_⟩ <;> (rw [hbc.cell (by assumption)];assumption))) (first | (go_at_call 223;refine (HQ.out _).mono ?_;rintro e w1 ⟨rfl,hbc⟩))
     go_wp2
     go_roundw
     case rel=>exact ⟨k+1,by omega,by go_num,(fun j hj=>by
      by_cases e:j=k
      ·subst e;rw [HX.out,HY.out,of_decide_eq_true HQQ.out.symm]
      ·exact HALL.out j (by omega)),hnx.trans ((Below.refl _ _).drew.trans (hbc.mono hzr))⟩
     case measure=>simp [intOf];omega
   ·have hkn:k=xs.length:=by omega
    have KN:=hide hkn;clear hkn
    go_wp2
    go_ret
    exact⟨ZbR (ZkC HLN.out (by rw [<-KN.out];exact HALL.out)),hnx⟩
 ·clear h1 h2
  have hd:((xs.length:Int) != (ys.length:Int))=true:=by simp;omega
  go_enter Tryz.func174,Tryz.ntmps174
  go_wp2
  go_ret
  exact⟨Zbm (fun h=>hl (by rw [h])),Below.refl _ _⟩
theorem ZaH {α:Type}{enc:α->List Value}(xs ys:List α):flat enc (xs++ys)=flat enc xs++flat enc ys:=by simp [flat]
theorem Zay {w:World}{cs:List Value}{t:TypeId}:∀ (j:Nat) (u:Value),cs[j]? = some u->(w.alloc (.cells cs.toArray t)).cell? ((⟨w.heap.size,0,none⟩:Addr).add j)=some u:=by
 intro j u hj;have e:(⟨w.heap.size,0,none⟩:Addr).add j=⟨w.heap.size,j,none⟩:=by
  simp only [Addr.add]
  split <;> simp_all
 rw [e,World.cell?_alloc_at _ _ _ _ rfl]
 simpa using hj
def intC (zs:List Int)(j:Nat):Value:=.int .i64 (zs.getD j 0)
def IntsAt (W:World)(v:Value)(zs:List Int)(B:Nat):Prop:=ZaE W v zs.length 1 (intC zs) B
theorem ZfP {B:Nat}{w wr:World}(h:Below B w wr)(n:Nat):Below B w (wr.drewN n):=⟨h.os,h.tape,h.output,h.size,h.block⟩
def intE (z:Int):List Value:=[.int .i64 z]
theorem ZdV (z:Int):(intE z).length=1:=rfl
theorem Zb3 (l:List Int):flat intE l=Za5 l:=by
 induction l with
 | nil=>rfl
 | cons x l ih=>rw [ZbB,ih];rfl
def ZaM (W:World)(v:Value)(l:List Int)(B:Nat):Prop:=ZaN intE 1 W v l B
theorem ZaM.then {W W':World}{v:Value}{l:List Int}(h:ZaM W v l W.heap.size)(hb:Below W.heap.size W W'):ZaM W' v l W'.heap.size:=ZaE.then h hb
theorem ZaM.shape {W:World}{v:Value}{l:List Int}{B:Nat}(h:ZaM W v l B):∃ a cap,v=.slice a l.length cap:=by obtain ⟨a,cap,h,_⟩:=h;exact⟨a,cap,h⟩
theorem ZaM.ints {W:World}{v:Value}{l:List Int}{B:Nat}(h:ZaM W v l B):IntsAt W v l B:=by
 obtain⟨a,cap,hv,h2⟩:=h;refine⟨a,cap,hv,?_⟩
 rcases h2 with h0 | ⟨b,off,ha,hb,hx⟩
 ·exact .inl h0
 ·refine .inr ⟨b,off,ha,hb,fun j hj=>?_⟩
  rw [hx j hj,Zb3];have hj':j<l.length:=by omega
  simp [Za5,intC,List.getD,List.getElem?_eq_getElem hj']
theorem ZaM.cell {W:World}{v:Value}{l:List Int}{B:Nat}(h:ZaM W v l B)(i:Nat)(z:Int)(hz:l[i]? = some z):∃ b off cap,v=.slice (some ⟨b,off,none⟩) l.length cap/\b<B/\W.cell? ⟨b,off+i,none⟩=some (.int .i64 z):=by
 obtain⟨b,off,cap,hv,hb,hc⟩:=ZaN.cell h ZdV i z hz;exact⟨b,off,cap,hv,hb,by have:=hc 0 _ rfl;simpa using this⟩
theorem Zce {W:World}{base:Nat}{v:Value}{l:List Int}(h:W.ownsRow base 3 1 v l.length (flat intE l)):ZaM W v l W.heap.size:=Zap h
end Go.Proofs.YtadokhjefnkajaaGreat
namespace Go.Proofs.YtadokhjefnkajaaGreat
open Go.RowKit Go.ChangeShapes Go.WideShapes

section
variable {H:Type} {enc:TypeId × Value->H} {P:Program} {w:World} {base:Nat} {spare:Nat->Bool} {held:Bool}

theorem ZhZ {α:Type} [Inhabited α]{encE:α->List Value}{sz:Nat}(hpos:0<sz){R:α->Prop}(hsz:∀ a,(encE a).length=sz){t e:TypeId}{fuel:Nat}{cs:List Value}{x:DataW H × List MemPlace}(ht:P.underlying t=some (.slice e))(ce:P.cellsOf e=sz)
  (hel:∀ fuel cs x,DataW.trod enc P w base spare held fuel e cs=some x->∃ a:α,cs=encE a/\R a) (h:DataW.trod enc P w base spare held fuel t cs=some x):
  ∃ v xs,cs=[v]/\ZaN encE sz w v xs w.heap.size/\xs.length<=maxLen/\∀ a∈xs,R a:=by
 rcases Go.Deep.open_slice ht h with ⟨h0,_⟩ | ⟨a,len,cap,m,n,D,Pl,rfl,hb,hlc,hcm,hmm,_,hx⟩
 ·exact ⟨_,[],h0,⟨none,0,rfl,.inl rfl⟩,by simp,by simp⟩
 ·have hlm:len<=m:=by rw [hmm];split <;> omega
  have each:∀ i,i<len->∃ q:α,R q/\∀ r u,(encE q)[r]? = some u->w.cell? (a.add (i*sz+r))=some u:=by
   intro i hi;obtain⟨cs',h1,h2⟩:=hx i (by omega)
   rw [ce] at h1;obtain⟨_,hlen,hcell⟩:=World.cells?_some h1;obtain⟨q,rfl,hR⟩:=hel _ _ _ h2;refine⟨q,hR,fun r u hu=>?_⟩
   have hr:r<sz:=by have:=(List.getElem?_eq_some_iff.1 hu).1;rw [hsz] at this;exact this
   rw [<-Go.Deep.add_add,hcell r hr,hu]
  obtain⟨q,hq⟩:=Go.Deep.choose_lt each;refine⟨_,(List.range len).map q,rfl,?_,by simp;omega,fun a ha=>by obtain ⟨i,hi,rfl⟩:=List.mem_map.1 ha;exact (hq i (by simpa using hi)).1⟩
  have hl:((List.range len).map q).length=len:=by simp
  unfold ZaN ZaE;rw [hl];refine⟨_,cap,rfl,?_⟩
  by_cases hl0:len=0
  ·exact .inl hl0
  ·right
   have hsp:a.spot=none:=by
    have hu:(encE (q 0))[0]? = some ((encE (q 0))[0]'(by rw [hsz];exact hpos)):=List.getElem?_eq_getElem _
    have:=World.cell?_spot ((hq 0 (by omega)).2 0 _ hu)
    simpa [Addr.add] using this
   have hblk:a.block<w.heap.size:=by
    have hu:(encE (q 0))[0]? = some ((encE (q 0))[0]'(by rw [hsz];exact hpos)):=List.getElem?_eq_getElem _
    have:=World.block_lt_of_cell? w _ ((hq 0 (by omega)).2 0 _ hu)
    simpa [Addr.add] using this
   refine⟨a.block,a.off,by obtain ⟨b,o,s⟩:=a;simp at hsp;rw [hsp],hblk,fun j hj=>?_⟩
   have e:j=j / sz*sz+j%sz:=by rw [Nat.mul_comm];exact (Nat.div_add_mod j sz).symm
   have hd:j / sz<len:=Nat.div_lt_of_lt_mul (by rw [Nat.mul_comm];exact hj)
   have hm4:j%sz<sz:=Nat.mod_lt _ hpos;have hg:=ZcV hsz ((List.range len).map q) (j / sz) (j%sz) (q (j / sz)) (by simp [hd]) hm4
   have hu:(encE (q (j / sz)))[j%sz]? = some ((encE (q (j / sz)))[j%sz]'(by rw [hsz];exact hm4)):=List.getElem?_eq_getElem _
   have:=(hq (j / sz) hd).2 (j%sz) _ hu;rw [<-e,ZnY hsp] at this;rw [this];rw [<-e] at hg;simp only [List.getD_eq_getElem?_getD,hg,hu]
   rfl
end
end Go.Proofs.YtadokhjefnkajaaGreat
namespace Go.Proofs.YtadokhjefnkajaaGreat
open Go.RowKit
set_option linter.unusedSimpArgs false
set_option linter.unusedVariables false
set_option maxRecDepth 100000
set_option maxHeartbeats 8000000
def lkE (l:Lk):List Value:=[.int .i64 l.a,.int .i64 l.b,.int .i64 l.c,.int .i64 l.r]
def thE (t:Th):List Value:=[.int .i64 t.o,.int .i64 t.k,.int .i64 t.c,.bool t.f]
theorem Zgc (l:Lk):(lkE l).length=4:=rfl
theorem ZgC (t:Th):(thE t).length=4:=rfl
def ZaS (W:World)(v:Value)(ls:List Lk)(B:Nat):Prop:=ZaN lkE 4 W v ls B
def ZaV (W:World)(v:Value)(ts:List Th)(B:Nat):Prop:=ZaN thE 4 W v ts B
theorem ZaS.then {W W':World}{v:Value}{ls:List Lk}(h:ZaS W v ls W.heap.size)(hb:Below W.heap.size W W'):ZaS W' v ls W'.heap.size:=ZaE.then h hb
theorem ZaV.then {W W':World}{v:Value}{ls:List Th}(h:ZaV W v ls W.heap.size)(hb:Below W.heap.size W W'):ZaV W' v ls W'.heap.size:=ZaE.then h hb
theorem ZaS.shape {W:World}{v:Value}{ls:List Lk}{B:Nat}(h:ZaS W v ls B):∃ a cap,v=.slice a ls.length cap:=by obtain ⟨a,cap,h,_⟩:=h;exact⟨a,cap,h⟩
theorem ZaV.shape {W:World}{v:Value}{ls:List Th}{B:Nat}(h:ZaV W v ls B):∃ a cap,v=.slice a ls.length cap:=by obtain ⟨a,cap,h,_⟩:=h;exact⟨a,cap,h⟩
theorem ZaS.cells {W:World}{v:Value}{ls:List Lk}{B:Nat}(h:ZaS W v ls B)(i:Nat)(l:Lk)(hl:ls[i]? = some l):
  ∃ b off cap,v=.slice (some ⟨b,off,none⟩) ls.length cap/\b<B/\W.cell? ⟨b,off+i*4,none⟩=some (.int .i64 l.a)/\W.cell? ⟨b,off+i*4+1,none⟩=some (.int .i64 l.b) /\
   W.cell? ⟨b,off+i*4+2,none⟩=some (.int .i64 l.c)/\W.cell? ⟨b,off+i*4+3,none⟩=some (.int .i64 l.r):=by
 obtain⟨b,off,cap,hv,hb,hc⟩:=ZaN.cell h Zgc i l hl;exact⟨b,off,cap,hv,hb,hc 0 _ rfl,hc 1 _ rfl,hc 2 _ rfl,hc 3 _ rfl⟩
theorem ZaV.cells {W:World}{v:Value}{ls:List Th}{B:Nat}(h:ZaV W v ls B)(i:Nat)(l:Th)(hl:ls[i]? = some l):
  ∃ b off cap,v=.slice (some ⟨b,off,none⟩) ls.length cap/\b<B/\W.cell? ⟨b,off+i*4,none⟩=some (.int .i64 l.o)/\W.cell? ⟨b,off+i*4+1,none⟩=some (.int .i64 l.k) /\
   W.cell? ⟨b,off+i*4+2,none⟩=some (.int .i64 l.c)/\W.cell? ⟨b,off+i*4+3,none⟩=some (.bool l.f):=by
 obtain⟨b,off,cap,hv,hb,hc⟩:=ZaN.cell h ZgC i l hl;exact⟨b,off,cap,hv,hb,hc 0 _ rfl,hc 1 _ rfl,hc 2 _ rfl,hc 3 _ rfl⟩
structure RecD where
 area:Int
 kind:Int
 owner:Int
 key:Int
 seq:Int
 near:List Nr
 cost:Int
 far:Bool
 deriving DecidableEq
def recC (x:RecD)(v:Value):Array Value:=#[.int .i64 x.area,.int .i64 x.kind,.int .i64 x.owner,.int .i64 x.key,.int .i64 x.seq,v,.int .i64 x.cost,.bool x.far]
def Zmh (W:World)(v:Value)(x:RecD)(B:Nat):Prop:=∃ v1,v=.agg (recC x v1)/\ZaC W v1 x.near B
theorem Zmh.then {W W':World}{v:Value}{x:RecD}(h:Zmh W v x W.heap.size)(hb:Below W.heap.size W W'):Zmh W' v x W'.heap.size:=by
 obtain⟨v1,hv,h1⟩:=h;exact⟨v1,hv,h1.then hb⟩
theorem ZiE (v1 v2:Value)(x y:RecD)(w:World)(h1:Zmh w v1 x w.heap.size)(h2:Zmh w v2 y w.heap.size)(hl:x.near.length<=1048576):
  Calls Tryz.prog 101 #[v1,v2] w fun e w'=>e=.returned (.bool (decide (x=y)))/\Below w.heap.size w w':=by
 obtain⟨a0,a1,a2,a3,a4,ns,a6,a7⟩:=x;obtain⟨b0,b1,b2,b3,b4,ms,b6,b7⟩:=y;obtain⟨u1,rfl,k1⟩:=h1;obtain⟨u2,rfl,k2⟩:=h2;simp only [] at k1 k2 hl
 have K1:=hide k1;have K2:=hide k2;clear k1 k2;unfold recC;simp only []
 by_cases h0:a0=b0
 case neg=>
  have hd:(a0 != b0)=true:=by simpa using h0
  have hne:decide ((⟨a0,a1,a2,a3,a4,ns,a6,a7⟩:RecD)=⟨b0,b1,b2,b3,b4,ms,b6,b7⟩)=false:=decide_eq_false (fun h=>by cases h;exact h0 rfl)
  rw [hne];clear hne
  go_enter Tryz.func101,Tryz.ntmps101
  go_wp2
  go_ret
  exact⟨rfl,Zas _ _⟩
 subst h0;by_cases h1:a1=b1
 case neg=>
  have hd:(a1 != b1)=true:=by simpa using h1
  have hne:decide ((⟨a0,a1,a2,a3,a4,ns,a6,a7⟩:RecD)=⟨a0,b1,b2,b3,b4,ms,b6,b7⟩)=false:=decide_eq_false (fun h=>by cases h;exact h1 rfl)
  rw [hne];clear hne
  go_enter Tryz.func101,Tryz.ntmps101
  go_wp2
  go_ret
  exact⟨rfl,Zas _ _⟩
 subst h1;by_cases h2:a2=b2
 case neg=>
  have hd:(a2 != b2)=true:=by simpa using h2
  have hne:decide ((⟨a0,a1,a2,a3,a4,ns,a6,a7⟩:RecD)=⟨a0,a1,b2,b3,b4,ms,b6,b7⟩)=false:=decide_eq_false (fun h=>by cases h;exact h2 rfl)
  rw [hne];clear hne
  go_enter Tryz.func101,Tryz.ntmps101
  go_wp2
  go_ret
  exact⟨rfl,Zas _ _⟩
 subst h2;by_cases h3:a3=b3
 case neg=>
  have hd:(a3 != b3)=true:=by simpa using h3
  have hne:decide ((⟨a0,a1,a2,a3,a4,ns,a6,a7⟩:RecD)=⟨a0,a1,a2,b3,b4,ms,b6,b7⟩)=false:=decide_eq_false (fun h=>by cases h;exact h3 rfl)
  rw [hne];clear hne
  go_enter Tryz.func101,Tryz.ntmps101
  go_wp2
  go_ret
  exact⟨rfl,Zas _ _⟩
 subst h3;by_cases h4:a4=b4
 case neg=>
  have hd:(a4 != b4)=true:=by simpa using h4
  have hne:decide ((⟨a0,a1,a2,a3,a4,ns,a6,a7⟩:RecD)=⟨a0,a1,a2,a3,b4,ms,b6,b7⟩)=false:=decide_eq_false (fun h=>by cases h;exact h4 rfl)
  rw [hne];clear hne
  go_enter Tryz.func101,Tryz.ntmps101
  go_wp2
  go_ret
  exact⟨rfl,Zas _ _⟩
 subst h4
 go_enter Tryz.func101,Tryz.ntmps101
 go_wp2_with fail
 refine (ZjA u1 u2 ns ms _ (K1.out.then (Zas _ _)) (K2.out.then (Zas _ _)) hl).mono ?_
 rintro e w1 ⟨rfl,bb1⟩;have bw1:Below w.heap.size w w1:=(Zas _ _).trans (bb1.mono (by simp;omega))
 have hw0:w1.heap[w.heap.size]? = some (.cells #[.int .i64 a0,.int .i64 a1,.int .i64 a2,.int .i64 a3,.int .i64 a4,u1,.int .i64 a6,.bool a7] 39):=by
  rw [bb1.block _ (by simp;omega),Below.heap_alloc _ _ _ (by simp),heap_alloc_new]
 have hw1:w1.heap[w.heap.size+1]? = some (.cells #[.int .i64 a0,.int .i64 a1,.int .i64 a2,.int .i64 a3,.int .i64 a4,u2,.int .i64 b6,.bool b7] 39):=by
  rw [bb1.block _ (by simp)]
  have:=heap_alloc_new (w.alloc (.cells #[.int .i64 a0,.int .i64 a1,.int .i64 a2,.int .i64 a3,.int .i64 a4,u1,.int .i64 a6,.bool a7] 39)) (.cells #[.int .i64 a0,.int .i64 a1,.int .i64 a2,.int .i64 a3,.int .i64 a4,u2,.int .i64 b6,.bool b7] 39)
  simpa using this
 have s6:=Zaa hw0 6;have s7:=Zaa hw0 7;have t6:=Zaa hw1 6;have t7:=Zaa hw1 7;simp at s6 s7 t6 t7
 clear bb1 hw0 hw1;by_cases hns:ns=ms
 case neg=>
  rw [decide_eq_false hns];have hne:decide ((⟨a0,a1,a2,a3,a4,ns,a6,a7⟩:RecD)=⟨a0,a1,a2,a3,a4,ms,b6,b7⟩)=false:=decide_eq_false (fun h=>by cases h;exact hns rfl)
  have HNE:=hide hne;clear hne
  go_wp2
  go_ret
  exact⟨by rw [HNE.out];rfl,bw1⟩
 subst hns;rw [decide_eq_true (rfl:ns=ns)];by_cases h6:a6=b6
 case neg=>
  have hd:(a6 != b6)=true:=by simpa using h6
  have hne:decide ((⟨a0,a1,a2,a3,a4,ns,a6,a7⟩:RecD)=⟨a0,a1,a2,a3,a4,ns,b6,b7⟩)=false:=decide_eq_false (fun h=>by cases h;exact h6 rfl)
  have HNE:=hide hne;clear hne
  go_wp2
  go_ret
  exact⟨by rw [HNE.out];rfl,bw1⟩
 subst h6;cases a7 <;> cases b7
 all_goals
  go_wp2
  go_ret
  exact⟨by simp,bw1⟩
structure WayD where
 to:Int
 cost:Int
 hops:List Int
 deriving DecidableEq
def wayC (x:WayD)(v:Value):Array Value:=#[.int .i64 x.to,.int .i64 x.cost,v]
def Zpt (W:World)(v:Value)(x:WayD)(B:Nat):Prop:=∃ v1,v=.agg (wayC x v1)/\ZaM W v1 x.hops B
theorem Zpt.then {W W':World}{v:Value}{x:WayD}(h:Zpt W v x W.heap.size)(hb:Below W.heap.size W W'):Zpt W' v x W'.heap.size:=by
 obtain⟨v1,hv,h1⟩:=h;exact⟨v1,hv,h1.then hb⟩
theorem Zec {α:Type}{enc:α->List Value}{sz bytes:Nat}(hlen:∀ a,(enc a).length=sz)(hpos:0<sz)(hbb:bytes<=100){P:Program}(w:World){o:Oper}{a:Act}{K:Act->World->Prop}{Q:Exit->Act->World->Prop}(s x:Operand)(t:TypeId)
  (ho:o.op=.call { callee:=.builtin .append,args:=#[s,x],argTypes:=#[t,t] }) (base:Nat) (e:TypeId) (ht:P.underlying t=some (.slice e)) (zv:Value) (hzv:zv.cells.size=sz)
  (hinfo:(P.info? e).map (fun i=>(i.zero,i.size,i.bytes))=some (some zv,sz,bytes))
  (v:Value) (l:List α) (y:α) (hone:∀ u∈enc y,u.oneCell'=true) (hs:a.eval s=v) (hown:w.ownsRow base e sz v l.length (flat enc l))
  (ad:Addr) (c:Nat) (hx:a.eval x=.slice (some ad) 1 c) (hnews:∀ j u,(enc y)[j]? = some u->w.cell? (ad.add j)=some u)
  (hl:l.length+1<=1000000000) (hbase:base<=w.heap.size)
  (h:∀ v' w',w'.ownsRow base e sz v' (l++[y]).length (flat enc (l++[y]))->w.grownBy w' v.ownBlock->K (a.put o.dst v') w'):o.wp P a w K Q:=by
 obtain⟨i0,hi,hz0,hz1,hz2⟩:=info_parts hinfo;refine wp_append_own w s x t ho base e i0 zv sz bytes ht hi hz0 hz1 hz2 hzv hpos v l.length (flat enc l) hs hown ad 1 c (enc y) hx (by rw [hlen];omega) hnews hone (by unfold maxLen;omega) ?_ hbase ?_
 ·have:(l.length+1)*bytes<=1000000000*100:=Nat.mul_le_mul hl hbb
  omega
 ·intro v' w' h1 h2 _
  have e1:flat enc l++enc y=flat enc (l++[y]):=by rw [ZaH];simp [flat]
  rw [e1] at h1;exact h v' w' (by simpa using h1) h2
end Go.Proofs.YtadokhjefnkajaaGreat
namespace Go.Proofs.YtadokhjefnkajaaGreat
open Go.RowKit Go.ChangeShapes Go.WideShapes

section
variable {H:Type} {enc:TypeId × Value->H} {w:World} {base:Nat} {spare:Nat->Bool} {held:Bool}

theorem ZoI {fuel:Nat}{cs:List Value}{x:DataW H × List MemPlace}(h:DataW.trod enc Tryz.prog w base spare held fuel 4 cs=some x):∃ z:Bool,cs=blE z/\True:=by
 obtain⟨a,ha,_⟩:=DataW.trod_bool Tryz.underlying4 h;exact⟨a,ha,trivial⟩

set_option maxRecDepth 100000 in
theorem Zi0 {r:Reach}{b0:Nat}{v:Value}{d:DataW H}{ps:List MemPlace}(hval:Value.okWide Tryz.prog w r b0 46 v)(hd:DataW.Trod enc Tryz.prog w base spare held 46 v d ps):
  ∃ l:List Bool,Zba w v l w.heap.size/\l.length<=maxLen:=by
 obtain⟨a0,len0,cap0,rfl⟩:=okWide_slice Tryz.underlying46 hval;obtain⟨fuel,hf⟩:=hd;obtain⟨u,xs,hu,hs,hl,_⟩:=ZhZ (encE:=blE) (sz:=1) (R:=fun _=>True) (by omega) Zhz Tryz.underlying46 (by kernel_rfl) (fun _ _ _ h=>ZoI h) hf
 simp [Value.cells] at hu
 subst hu;exact⟨xs,hs,hl⟩
end
end Go.Proofs.YtadokhjefnkajaaGreat
