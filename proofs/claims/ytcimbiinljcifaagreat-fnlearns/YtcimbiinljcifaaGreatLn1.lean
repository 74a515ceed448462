/-
  Math Base OwnB Flat StructKit AppK Lk RowAt CostS ToLinks AppS IntRow IntK AppTwo InB EqLinks Nets NetOkS
-/
import Derived.WalkKit
import Derived.Laws.IdiomStrings
import Derived.Test.YtcimbiinljcifaaGreatRows
import Derived.WalkSpells
import Derived.WalkLawsBesides
import Derived.OwnWalk
import Derived.Deep.QuietTactic
import Derived.BigQuiet
import Derived.Handy
import Derived.WalkSmall
import Derived.Deep.RegionHeld3
namespace Go.Proofs.YtcimbiinljcifaaGreat
open Go.RowKit
set_option linter.unusedSimpArgs false
set_option linter.unusedVariables false
set_option maxRecDepth 100000
set_option maxHeartbeats 8000000
theorem hide {p:Prop}(h:p):Hid p:=h
def bs (l:List UInt8):ByteArray:=⟨l.toArray⟩
def cellsOf (l:List UInt8):List Value:=l.map fun b=>Value.int .u8 (b.toNat:Int)
theorem add_zero' (b o:Nat):(⟨b,o,none⟩:Addr).add 0=⟨b,o,none⟩:=rfl
theorem ZaD (x:Int)(h0 : -1000000000000000000<=x)(h1:x<=1000000000000000000):IntKind.i64.wrap x=x:=by
 simp only [IntKind.wrap,IntKind.signed,IntKind.bits]
 simp
 omega
theorem ZdJ {k:IntKind}{a b:Int}(h:a=b):Ending.returned (.int k a)=.returned (.int k b):=by rw [h]

theorem Zah {w w':World}{base B:Nat}{e:TypeId}{size:Nat}{v:Value}{n:Nat}{xs:List Value}(h:w.ownsRow base e size v n xs)(hb:Below B w w')(hB:w.heap.size<=B):w'.ownsRow base e size v n xs:=by
 refine⟨h.1,?_⟩
 rcases h.2 with h2 | ⟨g,cap,cur,hv,hg,hh,r⟩
 ·exact .inl h2
 ·have hlt:g<w.heap.size:=by
   rcases Nat.lt_or_ge g w.heap.size with hl | hl
   ·exact hl
   ·rw [Array.getElem?_eq_none hl] at hh;cases hh
  exact .inr ⟨g,cap,cur,hv,hg,by rw [hb.block g (by omega)];exact hh,r⟩
theorem Zjt {w:World}{base:Nat}{e:TypeId}{v:Value}{n:Nat}{xs:List Value}(h:w.ownsRow base e 1 v n xs)(hn:0<n):
  ∃ g cap,v=.slice (some ⟨g,0,none⟩) n cap/\base<=g/\g<w.heap.size:=by
 rcases h.2 with ⟨_,h0⟩ | ⟨g,cap,cur,hv,hb,hg,_⟩
 ·omega
 ·refine ⟨g,cap,hv,hb,?_⟩
  rcases Nat.lt_or_ge g w.heap.size with hlt | hge
  ·exact hlt
  ·rw [Array.getElem?_eq_none hge] at hg;cases hg
theorem ZiV {w:World}{base:Nat}{e:TypeId}{v:Value}{n:Nat}{xs:List Value}(h:w.ownsRow base e 1 v n xs):∃ a cap,v=.slice a n cap:=by
 rcases h.2 with ⟨h1,h0⟩ | ⟨g,cap,cur,hv,_⟩
 ·exact ⟨none,0,by rw [h1,h0]⟩
 ·exact ⟨_,cap,hv⟩
theorem Zac {w:World}{base size:Nat}{e:TypeId}{v:Value}{n:Nat}{xs:List Value}(h:w.ownsRow base e size v n xs):∃ a cap,v=.slice a n cap:=by
 rcases h.2 with ⟨h1,h0⟩ | ⟨g,cap,cur,hv,_⟩
 ·exact ⟨none,0,by rw [h1,h0]⟩
 ·exact ⟨_,cap,hv⟩
theorem Zal {w:World}{b0 b1 size:Nat}{e:TypeId}{v:Value}{n:Nat}{xs:List Value}(h:w.ownsRow b1 e size v n xs)(hb:b0<=b1):w.ownsRow b0 e size v n xs:=by
 refine⟨h.1,?_⟩
 rcases h.2 with h2 | ⟨g,cap,cur,hv,hg,r⟩
 ·exact .inl h2
 ·exact .inr ⟨g,cap,cur,hv,Nat.le_trans hb hg,r⟩
theorem Zau {w:World}{base size p j:Nat}{e:TypeId}{v u:Value}{n:Nat}{xs:List Value}(h:w.ownsRow base e size v n xs)(hp:p<base):(w.setCell ⟨p,j,none⟩ u).ownsRow base e size v n xs:=by
 refine⟨h.1,?_⟩
 rcases h.2 with h2 | ⟨g,cap,cur,hv,hg,hh,r⟩
 ·exact .inl h2
 ·exact .inr ⟨g,cap,cur,hv,hg,by rw [heap_setCell_other w ⟨p,j,none⟩ g _ (by show g≠p;omega)];exact hh,r⟩
theorem ZhD {w:World}{b0 b1:Nat}{e:TypeId}{v:Value}{n:Nat}{xs:List Value}(h:w.ownsRow b1 e 1 v n xs)(hb:b0<=b1):w.ownsRow b0 e 1 v n xs:=by
 refine⟨h.1,?_⟩
 rcases h.2 with h2 | ⟨g,cap,cur,hv,hg,r⟩
 ·exact .inl h2
 ·exact .inr ⟨g,cap,cur,hv,Nat.le_trans hb hg,r⟩
theorem Zaa {w:World}{p:Nat}{C:Array Value}{t:TypeId}(h:w.heap[p]? = some (.cells C t (0,0)))(j:Nat):w.cell? ⟨p,j,none⟩=C[j]? := by
 simp [World.cell?,h]
theorem Zae {w:World}{p:Nat}{C:Array Value}{t:TypeId}(h:w.heap[p]? = some (.cells C t (0,0)))(j:Nat):w.frozen? ⟨p,j,none⟩=false:=by
 simp [World.frozen?,h]
theorem Zag (w:World)(p j:Nat)(v:Value):w.grownBy (w.setCell ⟨p,j,none⟩ v) (some p):=⟨rfl,rfl,rfl,by simp,fun k _ hk=>heap_setCell_other w ⟨p,j,none⟩ k _ (fun e=>hk (by simp [e]))⟩
theorem ZdA (w:World)(n:Nat)(row:Option Nat):w.grownBy (w.drewN n) row:=⟨rfl,rfl,rfl,Nat.le_refl _,fun _ _ _=>rfl⟩
theorem Zaj {a b c:World}{row:Option Nat}(h:a.grownBy b row)(k:b.grownBy c row):a.grownBy c row:=
 ⟨k.os.trans h.os,k.tape.trans h.tape,k.output.trans h.output,Nat.le_trans h.size k.size,fun i hi hr=>(k.block i (Nat.lt_of_lt_of_le hi h.size) hr).trans (h.block i hi hr)⟩
theorem Zab {w:World}{p:Nat}{o:Obj}(h:w.heap[p]? = some o):p<w.heap.size:=by
 rcases Nat.lt_or_ge p w.heap.size with hl | hl
 ·exact hl
 ·rw [Array.getElem?_eq_none hl] at h;cases h
end Go.Proofs.YtcimbiinljcifaaGreat
namespace Go.Proofs.YtcimbiinljcifaaGreat
open Go.RowKit

def flat {α:Type}(enc:α->List Value)(xs:List α):List Value:=xs.flatMap enc

section
variable {α:Type} {enc:α->List Value} {sz:Nat}

theorem Zb6 (x:α)(xs:List α):flat enc (x::xs)=enc x++flat enc xs:=rfl

theorem Zbt (h:∀ a,(enc a).length=sz)(xs:List α):(flat enc xs).length=xs.length*sz:=by
 induction xs with
 | nil=>simp [flat]
 | cons x xs ih=>rw [Zb6,List.length_append,h,ih,List.length_cons,Nat.add_mul,Nat.one_mul,Nat.add_comm]

theorem ZeP (h:∀ a,(enc a).length=sz):∀ (xs:List α) (i r:Nat) (x:α),xs[i]? = some x->r<sz->(flat enc xs)[i*sz+r]? = (enc x)[r]?
 | [],i,r,x,hx,_=>by simp at hx
 | y::ys,0,r,x,hx,hr=>by
  simp at hx
  subst hx;rw [Zb6,Nat.zero_mul,Nat.zero_add,List.getElem?_append_left (by rw [h];exact hr)]
 | y::ys,i+1,r,x,hx,hr=>by
  have e:(i+1)*sz+r=sz+(i*sz+r):=by rw [Nat.add_mul,Nat.one_mul];omega
  rw [Zb6,List.getElem?_append_right (by rw [h,e];omega),h,e,Nat.add_sub_cancel_left]
  exact ZeP h ys i r x (by simpa using hx) hr

def setL:List Value->Nat->List Value->List Value
 | xs,_,[]=>xs
 | xs,off,v::vs=>setL (xs.set off v) (off+1) vs

theorem ZdM (a b:List Value):∀ (off:Nat) (vs:List Value),setL (a++b) (a.length+off) vs=a++setL b off vs
 | _,[]=>rfl
 | off,v::vs=>by
  unfold setL;rw [List.set_append_right _ _ (by omega),Nat.add_sub_cancel_left]
  exact ZdM a (b.set off v) (off+1) vs

theorem ZhK:∀ (vs b c:List Value),b.length=vs.length->setL (b++c) 0 vs=vs++c
 | [],b,c,h=>by
  have:b=[]:=List.length_eq_zero_iff.1 (by simpa using h)
  subst this
  rfl
 | v::vs,[],c,h=>by simp at h
 | v::vs,x::b,c,h=>by
  have h2:setL ([v]++(b++c)) ([v].length+0) vs=[v]++setL (b++c) 0 vs:=ZdM [v] (b++c) 0 vs;unfold setL;simp only [List.cons_append,List.set_cons_zero]
  simp only [List.cons_append,List.nil_append,List.length_cons,List.length_nil,Nat.add_zero] at h2
  rw [Nat.zero_add,h2,ZhK vs b c (by simpa using h)]

theorem ZiL (h:∀ a,(enc a).length=sz):∀ (xs:List α) (k:Nat) (x:α),k<xs.length->setL (flat enc xs) (k*sz) (enc x)=flat enc (xs.set k x)
 | [],k,x,hk=>by simp at hk
 | y::ys,0,x,_=>by
  rw [Nat.zero_mul,Zb6,ZhK _ _ _ (by rw [h,h]),List.set_cons_zero,Zb6]
 | y::ys,k+1,x,hk=>by
  have e:(k+1)*sz=(enc y).length+k*sz:=by rw [h,Nat.add_mul,Nat.one_mul,Nat.add_comm]
  rw [Zb6,e,ZdM,ZiL h ys k x (by simpa using hk),List.set_cons_succ,Zb6]
end

theorem Zke {α:Type}{enc:α->List Value}{sz:Nat}(h:∀ a,(enc a).length=sz)(z:Array Value)(x:α)(hz:z.toList=enc x)(hs:0<sz)(n:Nat):(madeCells z (n*sz)).toList=flat enc (List.replicate n x):=by
 have hzs:z.size=sz:=by rw [<-Array.length_toList,hz,h]
 apply List.ext_getElem?
 intro j;by_cases hj:j<n*sz
 ·have e:j=j / sz*sz+j%sz:=by rw [Nat.mul_comm];exact (Nat.div_add_mod j sz).symm
  have hd:j / sz<n:=Nat.div_lt_of_lt_mul (by rw [Nat.mul_comm];exact hj)
  have hm:j%sz<sz:=Nat.mod_lt _ hs;have g:=ZeP h (List.replicate n x) (j / sz) (j%sz) x (by simp [hd]) hm
  rw [<-e] at g;rw [g];have hm2:j%sz<z.size:=by rw [hzs];exact hm
  have e2:(enc x)[j%sz]? = some z[j%sz]:=by
   rw [<-hz];simp [hm2]
  rw [e2];simp [madeCells,hj,hzs,getElem!_pos z (j%sz) hm2]
 ·rw [List.getElem?_eq_none (by simp [size_madeCells];omega),List.getElem?_eq_none (by rw [Zbt h];simp;omega)]

def ZaT (W:World)(v:Value)(n sz:Nat)(f:Nat->Value)(B:Nat):Prop:=
 ∃ a cap,v=.slice a n cap/\(n=0\/∃ b off,a=some ⟨b,off,none⟩/\b<B/\∀ j,j<n*sz->W.cell? ⟨b,off+j,none⟩=some (f j))

theorem ZaT.later {W W':World}{v:Value}{n sz:Nat}{f:Nat->Value}{B C:Nat}(h:ZaT W v n sz f B)(hb:Below C W W')(hBC:B<=C):ZaT W' v n sz f B:=by
 obtain⟨a,cap,hv,h2⟩:=h;refine⟨a,cap,hv,?_⟩
 rcases h2 with h0 | ⟨b,off,ha,hb1,hx⟩
 ·exact .inl h0
 ·exact .inr ⟨b,off,ha,hb1,fun j hj=>by rw [hb.cell (p:=⟨b,off+j,none⟩) (by show b<C;omega)];exact hx j hj⟩

theorem ZaT.more {W:World}{v:Value}{n sz:Nat}{f:Nat->Value}{B C:Nat}(h:ZaT W v n sz f B)(hBC:B<=C):ZaT W v n sz f C:=by
 obtain⟨a,cap,hv,h2⟩:=h;refine⟨a,cap,hv,?_⟩
 rcases h2 with h0 | ⟨b,off,ha,hb1,hx⟩
 ·exact .inl h0
 ·exact .inr ⟨b,off,ha,by omega,hx⟩

theorem ZaT.then {W W':World}{v:Value}{n sz:Nat}{f:Nat->Value}(h:ZaT W v n sz f W.heap.size)(hb:Below W.heap.size W W'):ZaT W' v n sz f W'.heap.size:=(h.later hb (Nat.le_refl _)).more hb.size

def ZaP {α:Type}(enc:α->List Value)(sz:Nat)(W:World)(v:Value)(xs:List α)(B:Nat):Prop:=ZaT W v xs.length sz (fun j=>(flat enc xs).getD j undef) B

section
variable {α:Type} {enc:α->List Value} {sz:Nat}

theorem ZaP.cell {W:World}{v:Value}{xs:List α}{B:Nat}(h:ZaP enc sz W v xs B)(hs:∀ a,(enc a).length=sz)(i:Nat)(x:α)(hx:xs[i]? = some x):
  ∃ b off cap,v=.slice (some ⟨b,off,none⟩) xs.length cap/\b<B/\∀ r u,(enc x)[r]? = some u->W.cell? ⟨b,off+i*sz+r,none⟩=some u:=by
 have hi:i<xs.length:=(List.getElem?_eq_some_iff.1 hx).1;obtain⟨a,cap,hv,h2⟩:=h
 rcases h2 with h0 | ⟨b,off,ha,hb,hc⟩
 ·omega
 ·refine ⟨b,off,cap,by rw [hv,ha],hb,fun r u hu=>?_⟩
  have hr:r<sz:=by have:=(List.getElem?_eq_some_iff.1 hu).1;rw [hs] at this;exact this
  have hg:=ZeP hs xs i r x hx hr;have hlt:i*sz+r<xs.length*sz:=by
   have:(i+1)*sz<=xs.length*sz:=Nat.mul_le_mul_right _ hi;rw [Nat.add_mul,Nat.one_mul] at this;omega
  rw [Nat.add_assoc,hc _ hlt];simp only [List.getD_eq_getElem?_getD,hg,hu]
  rfl

theorem Zaq {W:World}{base:Nat}{e:TypeId}{v:Value}{xs:List α}(h:W.ownsRow base e sz v xs.length (flat enc xs)):ZaP enc sz W v xs W.heap.size:=by
 rcases h.2 with ⟨hv,h0⟩ | ⟨g,cap,cur,hv,hg,hh,hnc,hcm,hcs,htk⟩
 ·exact ⟨none,0,by rw [hv,h0],.inl h0⟩
 ·have hlt:g<W.heap.size:=by
   rcases Nat.lt_or_ge g W.heap.size with hl | hl
   ·exact hl
   ·rw [Array.getElem?_eq_none hl] at hh;cases hh
  refine⟨_,cap,hv,.inr ⟨g,0,rfl,hlt,fun j hj=>?_⟩⟩
  rw [Nat.zero_add];simp only [World.cell?,hh]
  have hj2:j<cur.size:=by
   have:xs.length*sz<=cap*sz:=Nat.mul_le_mul_right _ hnc;omega
  have e1:(flat enc xs)[j]? = cur.toList[j]? := by rw [<-htk,List.getElem?_take_of_lt hj]
  simp [List.getD,e1,hj2]
end
end Go.Proofs.YtcimbiinljcifaaGreat
namespace Go.Proofs.YtcimbiinljcifaaGreat
open Go.RowKit
set_option linter.unusedSimpArgs false
set_option linter.unusedVariables false
set_option maxRecDepth 100000
set_option maxHeartbeats 8000000
theorem ZaW {w:World}(o1 o2:Obj):Below w.heap.size w ((w.alloc o1).alloc o2):=((Below.refl _ _).alloc (Nat.le_refl _) _).alloc (by simp) _
theorem ZeX {w:World}(o1 o2 o3:Obj):Below w.heap.size w (((w.alloc o1).alloc o2).alloc o3):=(ZaW o1 o2).alloc (by simp;omega) _
theorem Zct {α:Type}{enc:α->List Value}{sz:Nat}(hsz:∀ a,(enc a).length=sz)(hpos:0<sz){P:Program}(w:World){ops:Array Oper}{rest:List Oper}{o:Oper}{a:Act}{Q:Exit->Act->World->Prop}
  (hg:o.guard=none) (l c:Operand) (t:TypeId) (hop:o.op=Op.makeSlice t l c) (base:Nat) (e:TypeId) (i:TypeInfo) (z:Value) (x:α) (hz:z.cells.toList=enc x)
  (h1:P.underlying t=some (.slice e)) (h2:P.info? e=some i) (h3:i.zero=some z) (h4:i.size=sz) (n:Nat) (hl:a.eval l=.int .i64 (n:Int)) (hc:a.eval c=.int .i64 (n:Int)) (b2:i.bytes*n<=281474976710656) (b3:n<=maxLen) (b4:base<=w.heap.size)
  (hK:∀ w',w'.ownsRow base e sz (.slice (some ⟨w.heap.size,0,none⟩) n n) n (flat enc (List.replicate n x))->w.grownBy w' none->wpList P ops Q rest (a.put o.dst (.slice (some ⟨w.heap.size,0,none⟩) n n)) w'):
  wpList P ops Q (o::rest) a w:=
 wpList_make_full w hg l c t hop base e i z sz h1 h2 h3 h4 .i64 .i64 (n:Int) (n:Int) n hl hc rfl rfl b2 b3 b4 (fun w' k1 k2=>hK w' (by rw [<-Zke hsz z.cells x hz hpos];exact k1) k2)
def part {α:Type}(xs:List α)(z:α)(k:Nat):List α:=xs.take k++List.replicate (xs.length-k) z
theorem Zmd (w:World)(a b c:Obj):(((w.alloc a).alloc b).alloc c).heap[w.heap.size]? = some a:=by
 rw [Below.heap_alloc _ _ _ (by simp;omega),Below.heap_alloc _ _ _ (by simp),heap_alloc_new]
theorem Zme (w:World)(a b c:Obj):(((w.alloc a).alloc b).alloc c).heap[w.heap.size+1]? = some b:=by
 rw [Below.heap_alloc _ _ _ (by simp)]
 have:=heap_alloc_new (w.alloc a) b
 simpa using this
theorem Zmf (w:World)(a b c:Obj):(((w.alloc a).alloc b).alloc c).heap[w.heap.size+1+1]? = some c:=by
 have:=heap_alloc_new ((w.alloc a).alloc b) c
 simpa using this
theorem Zaf {a b:Bool}(h:b=a):Ending.returned (.bool a)=.returned (.bool b):=by rw [h]
theorem ZaL {α:Type}{enc:α->List Value}(xs ys:List α):flat enc (xs++ys)=flat enc xs++flat enc ys:=by simp [flat]
theorem ZaU {α:Type}{enc:α->List Value}{sz bytes:Nat}(hlen:∀ a,(enc a).length=sz)(hpos:0<sz)(hone:∀ a,∀ u∈enc a,u.oneCell'=true)(hbb:bytes<=100){P:Program}(w:World){ops:Array Oper}{rest:List Oper}{o:Oper}{a:Act}{Q:Exit->Act->World->Prop}(hgd:o.guard=none)(s x:Operand)(t:TypeId)
  (ho:o.op=.call { callee:=.builtin .append,args:=#[s,x],argTypes:=#[t,t] }) (base:Nat) (e:TypeId) (ht:P.underlying t=some (.slice e)) (zv:Value) (hzv:zv.cells.size=sz)
  (hinfo:(P.info? e).map (fun i=>(i.zero,i.size,i.bytes))=some (some zv,sz,bytes))
  (v:Value) (l:List α) (y:α) (hs:a.eval s=v) (hown:w.ownsRow base e sz v l.length (flat enc l))
  (ad:Addr) (c:Nat) (hx:a.eval x=.slice (some ad) 1 c) (hnews:∀ j u,(enc y)[j]? = some u->w.cell? (ad.add j)=some u)
  (hl:l.length+1<=1000000000) (hbase:base<=w.heap.size)
  (h:∀ v' w' l',Hid (l'=l++[y])->w'.ownsRow base e sz v' l'.length (flat enc l')->w.grownBy w' v.ownBlock->wpList P ops Q rest (a.put o.dst v') w'):wpList P ops Q (o::rest) a w:=by
 obtain⟨i0,hi,hz0,hz1,hz2⟩:=info_parts hinfo;refine wpList_append_own w hgd s x t ho base e i0 zv sz bytes ht hi hz0 hz1 hz2 hzv hpos v l.length (flat enc l) hs hown ad 1 c (enc y) hx (by rw [hlen];omega) hnews (hone y) (by unfold maxLen;omega) ?_ hbase ?_
 ·have:(l.length+1)*bytes<=1000000000*100:=Nat.mul_le_mul hl hbb
  omega
 ·intro v' w' h1 h2 _
  have e1:flat enc l++enc y=flat enc (l++[y]):=by rw [ZaL];simp [flat]
  rw [e1] at h1;exact h v' w' (l++[y]) rfl (by simpa using h1) h2
theorem Zar {w:World}{cs:List Value}{t:TypeId}:∀ (j:Nat) (u:Value),cs[j]? = some u->(w.alloc (.cells cs.toArray t)).cell? ((⟨w.heap.size,0,none⟩:Addr).add j)=some u:=by
 intro j u hj;have e:(⟨w.heap.size,0,none⟩:Addr).add j=⟨w.heap.size,j,none⟩:=by
  simp only [Addr.add]
  split <;> simp_all
 rw [e,World.cell?_alloc_at _ _ _ _ rfl]
 simpa using hj
structure Lk where
 a:Int
 b:Int
 c:Int
 r:Int
 deriving DecidableEq
structure Th where
 o:Int
 k:Int
 c:Int
 f:Bool
 deriving DecidableEq
def lkV (l:Lk):Value:=.agg #[.int .i64 l.a,.int .i64 l.b,.int .i64 l.c,.int .i64 l.r]
def thV (t:Th):Value:=.agg #[.int .i64 t.o,.int .i64 t.k,.int .i64 t.c,.bool t.f]
def lkE (l:Lk):List Value:=[.int .i64 l.a,.int .i64 l.b,.int .i64 l.c,.int .i64 l.r]
def thE (t:Th):List Value:=[.int .i64 t.o,.int .i64 t.k,.int .i64 t.c,.bool t.f]
theorem Zff (l:Lk):(lkE l).length=4:=rfl
theorem ZfD (t:Th):(thE t).length=4:=rfl
def Za0 (W:World)(v:Value)(ls:List Lk)(B:Nat):Prop:=ZaP lkE 4 W v ls B
def Zbf (W:World)(v:Value)(ts:List Th)(B:Nat):Prop:=ZaP thE 4 W v ts B
theorem Za0.then {W W':World}{v:Value}{ls:List Lk}(h:Za0 W v ls W.heap.size)(hb:Below W.heap.size W W'):Za0 W' v ls W'.heap.size:=ZaT.then h hb
theorem Zbf.then {W W':World}{v:Value}{ls:List Th}(h:Zbf W v ls W.heap.size)(hb:Below W.heap.size W W'):Zbf W' v ls W'.heap.size:=ZaT.then h hb
theorem Za0.shape {W:World}{v:Value}{ls:List Lk}{B:Nat}(h:Za0 W v ls B):∃ a cap,v=.slice a ls.length cap:=by obtain ⟨a,cap,h,_⟩:=h;exact⟨a,cap,h⟩
theorem Zbf.shape {W:World}{v:Value}{ls:List Th}{B:Nat}(h:Zbf W v ls B):∃ a cap,v=.slice a ls.length cap:=by obtain ⟨a,cap,h,_⟩:=h;exact⟨a,cap,h⟩
theorem Za0.cells {W:World}{v:Value}{ls:List Lk}{B:Nat}(h:Za0 W v ls B)(i:Nat)(l:Lk)(hl:ls[i]? = some l):
  ∃ b off cap,v=.slice (some ⟨b,off,none⟩) ls.length cap/\b<B/\W.cell? ⟨b,off+i*4,none⟩=some (.int .i64 l.a)/\W.cell? ⟨b,off+i*4+1,none⟩=some (.int .i64 l.b) /\
   W.cell? ⟨b,off+i*4+2,none⟩=some (.int .i64 l.c)/\W.cell? ⟨b,off+i*4+3,none⟩=some (.int .i64 l.r):=by
 obtain⟨b,off,cap,hv,hb,hc⟩:=ZaP.cell h Zff i l hl;exact⟨b,off,cap,hv,hb,hc 0 _ rfl,hc 1 _ rfl,hc 2 _ rfl,hc 3 _ rfl⟩
theorem Zbf.cells {W:World}{v:Value}{ls:List Th}{B:Nat}(h:Zbf W v ls B)(i:Nat)(l:Th)(hl:ls[i]? = some l):
  ∃ b off cap,v=.slice (some ⟨b,off,none⟩) ls.length cap/\b<B/\W.cell? ⟨b,off+i*4,none⟩=some (.int .i64 l.o)/\W.cell? ⟨b,off+i*4+1,none⟩=some (.int .i64 l.k) /\
   W.cell? ⟨b,off+i*4+2,none⟩=some (.int .i64 l.c)/\W.cell? ⟨b,off+i*4+3,none⟩=some (.bool l.f):=by
 obtain⟨b,off,cap,hv,hb,hc⟩:=ZaP.cell h ZfD i l hl;exact⟨b,off,cap,hv,hb,hc 0 _ rfl,hc 1 _ rfl,hc 2 _ rfl,hc 3 _ rfl⟩
def Zb7 (f t r:Int)(l:Lk):Bool:=l.r==r&&((l.a==f&&l.b==t)||(l.a==t&&l.b==f))
def Zci (ls:List Lk)(f t r:Int):Int:=((ls.find? (Zb7 f t r)).map (·.c)).getD 0
theorem Zek {α:Type}(p:α->Bool):∀ (ls:List α) (k:Nat) (l:α),(∀ j,j<k->∀ x,ls[j]? = some x->p x=false)->ls[k]? = some l->p l=true->ls.find? p=some l
 | [],_,_,_,h,_=>by simp at h
 | y::ys,0,l,_,h,hp=>by simp at h;subst h;simp [hp]
 | y::ys,k+1,l,hno,h,hp=>by
  have h0:=hno 0 (by omega) y rfl
  rw [List.find?_cons,h0];exact Zek p ys k l (fun j hj x hx=>hno (j+1) (by omega) x (by simpa using hx)) (by simpa using h) hp
theorem ZfV {α:Type}(p:α->Bool)(ls:List α)(h:∀ j,j<ls.length->∀ x,ls[j]? = some x->p x=false):ls.find? p=none:=by
 rw [List.find?_eq_none];intro x hx;obtain⟨i,hi,e⟩:=List.mem_iff_getElem.1 hx;rw [h i hi x (by rw [List.getElem?_eq_getElem hi,e])]
 decide
theorem Zie {α:Type}{p:α->Bool}{ls:List α}{k:Nat}{l:α}(h:∀ j,j<k->∀ x,ls[j]? = some x->p x=false)(hl:ls[k]? = some l)(hp:p l=false):∀ j,j<k+1->∀ x,ls[j]? = some x->p x=false:=by
 intro j hj x hx;by_cases e:j=k
 ·subst e;rw [hl] at hx;cases hx;exact hp
 ·exact h j (by omega) x hx
theorem ZgF {ls:List Lk}{f t r:Int}{k:Nat}{l:Lk}(h:∀ j,j<k->∀ x,ls[j]? = some x->Zb7 f t r x=false)(hl:ls[k]? = some l)(hp:Zb7 f t r l=true):Zci ls f t r=l.c:=by
 unfold Zci;rw [Zek _ ls k l h hl hp];rfl
theorem Ze4 {ls:List Lk}{f t r:Int}{k:Nat}{l:Lk}(h:∀ j,j<k->∀ x,ls[j]? = some x->Zb7 f t r x=false)(hl:ls[k]? = some l)(hp:Zb7 f t r l=false):∀ j,j<k+1->∀ x,ls[j]? = some x->Zb7 f t r x=false:=Zie h hl hp
theorem Zhj {ls:List Lk}{f t r:Int}{k:Nat}(h:∀ j,j<k->∀ x,ls[j]? = some x->Zb7 f t r x=false)(hk:k=ls.length):Zci ls f t r=0:=by
 unfold Zci;rw [ZfV _ ls (by rw [<-hk];exact h)];rfl
theorem Zfu (n:Value)(v tv:Value)(ls:List Lk)(f t r:Int)(w:World)(hls:ls.length<=1048576)(hv:Za0 w v ls w.heap.size):
  Calls Tryz.prog 58 #[.agg #[n,v,tv],.int .i64 f,.int .i64 t,.int .i64 r] w fun e w'=>e=.returned (.int .i64 (Zci ls f t r))/\Below w.heap.size w w':=by
 obtain⟨a,cap,rfl⟩:∃ a cap,v=.slice a ls.length cap:=by obtain ⟨a,cap,h,_⟩:=hv;exact⟨a,cap,h⟩
 have HV:=hide hv;clear hv
 go_enter Tryz.func58,Tryz.ntmps58
 go_wp2
 go_loopw [9] (fun i wr=>∃ k:Nat,k<=ls.length/\i=.int .i64 k/\(∀ j,j<k->∀ l,ls[j]? = some l->Zb7 f t r l=false)/\Below w.heap.size w wr/\wr.heap[w.heap.size]? = some (.cells #[n,.slice a ls.length cap,tv] 27)) (fun i _=>ls.length-(intOf i).toNat)
 case atStart=>exact ⟨0,by omega,rfl,by omega,(Below.refl _ _).alloc (Nat.le_refl _) _,heap_alloc_new w _⟩
 case round=>
  obtain⟨k,hk,rfl,hno,hb,hx⟩:=hrel;have hx1:wr.cell? ⟨w.heap.size,1,none⟩=some (.slice a ls.length cap):=by rw [Zaa hx];rfl
  have HX:=hide hx;have HNO:=hide hno;clear hx hno;by_cases hlt:k<ls.length
  ·obtain ⟨l,hl⟩:∃ l,ls[k]? = some l:=⟨ls[k],List.getElem?_eq_getElem hlt⟩
   obtain⟨b,off,cap',hve,hbb,c0,c1,c2,c3⟩:=HV.out.cells k l hl;cases hve
   rw [<-hb.cell (p:=⟨b,off+k*4,none⟩) hbb] at c0;rw [<-hb.cell (p:=⟨b,off+k*4+1,none⟩) hbb] at c1;rw [<-hb.cell (p:=⟨b,off+k*4+2,none⟩) hbb] at c2;rw [<-hb.cell (p:=⟨b,off+k*4+3,none⟩) hbb] at c3;have HL:=hide hl;clear hl;obtain⟨la,lb,lc,lr⟩:=l
   go_wp2
   all_goals first
    | (go_ret
       refine⟨ZdJ (ZgF HNO.out HL.out ?_).symm,hb.alloc hb.size _⟩
       clear HV HX HL HNO hb hx1 c0 c1 c2 c3;simp only [Zb7]
       grind)
    | (refine ⟨⟨k+1,by omega,by go_num,Ze4 HNO.out HL.out ?_,hb.alloc hb.size _,?_⟩,by simp [intOf];omega⟩
       ·clear HV HX HL HNO hb hx1 c0 c1 c2 c3
        simp only [Zb7]
        grind
       ·rw [Below.heap_alloc _ _ _ (Zab HX.out)];exact HX.out)
    | (subst_vars
       refine⟨⟨k+1,by omega,by go_num,Ze4 HNO.out HL.out ?_,hb.alloc hb.size _,?_⟩,by simp [intOf];omega⟩
       ·clear HV HX HL HNO hb hx1 c0 c1 c2 c3
        simp only [Zb7]
        grind
       ·rw [Below.heap_alloc _ _ _ (Zab HX.out)];exact HX.out)
  ·have hk':k=ls.length:=by omega
   have HK:=hide hk';clear hk'
   go_wp2
   go_ret
   exact⟨ZdJ (Zhj HNO.out HK.out).symm,hb⟩
def lk0:Lk:=⟨0,0,0,0⟩
theorem Tryz.infoLk:(Tryz.prog.info? 127).map (fun i=>(i.zero,i.size,i.bytes))=some (some (lkV lk0),4,32):=by kernel_rfl
def th0:Th:=⟨0,0,0,false⟩
theorem Tryz.infoTh:(Tryz.prog.info? 131).map (fun i=>(i.zero,i.size,i.bytes))=some (some (thV th0),4,32):=by kernel_rfl

def ZbL (l:List Int):List Value:=l.map fun z=>Value.int .i64 z
theorem ZgO (a b:List Int):ZbL (a++b)=ZbL a++ZbL b:=by simp [ZbL]
theorem Tryz.info3:(Tryz.prog.info? 3).map (fun i=>(i.zero,i.size,i.bytes))=some (some (.int .i64 0),1,8):=by kernel_rfl
theorem ZcT {P:Program}(w:World){ops:Array Oper}{rest:List Oper}{o:Oper}{a:Act}{Q:Exit->Act->World->Prop}(hgd:o.guard=none)(s x:Operand)(t:TypeId)
  (ho:o.op=.call { callee:=.builtin .append,args:=#[s,x],argTypes:=#[t,t] }) (base:Nat) (e:TypeId) (ht:P.underlying t=some (.slice e))
  (hinfo:(P.info? e).map (fun i=>(i.zero,i.size,i.bytes))=some (some (.int .i64 0),1,8))
  (v:Value) (l:List Int) (z:Int) (hs:a.eval s=v) (hown:w.ownsRow base e 1 v l.length (ZbL l))
  (ad:Addr) (c:Nat) (hx:a.eval x=.slice (some ad) 1 c) (hnews:w.cell? (ad.add 0)=some (.int .i64 z))
  (hlen:l.length+1<=1000000000) (hbase:base<=w.heap.size)
  (h:∀ v' w' l',Hid (l'=l++[z])->w'.ownsRow base e 1 v' l'.length (ZbL l')->w.grownBy w' v.ownBlock->wpList P ops Q rest (a.put o.dst v') w'):wpList P ops Q (o::rest) a w:=by
 obtain⟨i0,hi,hz0,hz1,hz2⟩:=info_parts hinfo;refine wpList_append_own w hgd s x t ho base e i0 (.int .i64 0) 1 8 ht hi hz0 hz1 hz2 rfl (by decide) v l.length (ZbL l) hs hown ad 1 c (ZbL [z]) hx (by simp [ZbL]) ?_ ?_ (by unfold maxLen;omega) (by omega) hbase ?_
 ·intro j u hj
  have hj':j=0:=by have:=(List.getElem?_eq_some_iff.1 hj).1;simp [ZbL] at this;omega
  subst hj';rw [hnews]
  simpa [ZbL] using hj
 ·intro u hu
  simp only [ZbL,List.mem_map] at hu
  obtain⟨b,_,rfl⟩:=hu
  rfl
 ·intro v' w' h1 h2 _
  rw [<-ZgO] at h1;exact h v' w' (l++[z]) rfl (by simpa using h1) h2
def intC (zs:List Int)(j:Nat):Value:=.int .i64 (zs.getD j 0)
def IntsAt (W:World)(v:Value)(zs:List Int)(B:Nat):Prop:=ZaT W v zs.length 1 (intC zs) B
def intE (z:Int):List Value:=[.int .i64 z]
theorem ZdY (z:Int):(intE z).length=1:=rfl
theorem ZgL (l:List Int):flat intE l=ZbL l:=by
 induction l with
 | nil=>rfl
 | cons x l ih=>rw [Zb6,ih];rfl
def Za9 (W:World)(v:Value)(l:List Int)(B:Nat):Prop:=ZaP intE 1 W v l B
theorem Za9.then {W W':World}{v:Value}{l:List Int}(h:Za9 W v l W.heap.size)(hb:Below W.heap.size W W'):Za9 W' v l W'.heap.size:=ZaT.then h hb
theorem Za9.shape {W:World}{v:Value}{l:List Int}{B:Nat}(h:Za9 W v l B):∃ a cap,v=.slice a l.length cap:=by obtain ⟨a,cap,h,_⟩:=h;exact⟨a,cap,h⟩
theorem Za9.ints {W:World}{v:Value}{l:List Int}{B:Nat}(h:Za9 W v l B):IntsAt W v l B:=by
 obtain⟨a,cap,hv,h2⟩:=h;refine⟨a,cap,hv,?_⟩
 rcases h2 with h0 | ⟨b,off,ha,hb,hx⟩
 ·exact .inl h0
 ·refine .inr ⟨b,off,ha,hb,fun j hj=>?_⟩
  rw [hx j hj,ZgL];have hj':j<l.length:=by omega
  simp [ZbL,intC,List.getD,List.getElem?_eq_getElem hj']
theorem Za9.cell {W:World}{v:Value}{l:List Int}{B:Nat}(h:Za9 W v l B)(i:Nat)(z:Int)(hz:l[i]? = some z):∃ b off cap,v=.slice (some ⟨b,off,none⟩) l.length cap/\b<B/\W.cell? ⟨b,off+i,none⟩=some (.int .i64 z):=by
 obtain⟨b,off,cap,hv,hb,hc⟩:=ZaP.cell h ZdY i z hz;exact⟨b,off,cap,hv,hb,by have:=hc 0 _ rfl;simpa using this⟩
theorem Zb0 {W:World}{base:Nat}{v:Value}{l:List Int}(h:W.ownsRow base 3 1 v l.length (flat intE l)):Za9 W v l W.heap.size:=Zaq h
theorem Zev {bytes:Nat}(hbb:bytes<=100){P:Program}(w:World){ops:Array Oper}{rest:List Oper}{o:Oper}{a:Act}{Q:Exit->Act->World->Prop}(hgd:o.guard=none)(s x:Operand)(t:TypeId)
  (ho:o.op=.call { callee:=.builtin .append,args:=#[s,x],argTypes:=#[t,t] }) (base:Nat) (e:TypeId) (ht:P.underlying t=some (.slice e))
  (hinfo:(P.info? e).map (fun i=>(i.zero,i.size,i.bytes))=some (some (.int .i64 0),1,bytes))
  (v:Value) (l:List Int) (y1 y2:Int) (hs:a.eval s=v) (hown:w.ownsRow base e 1 v l.length (flat intE l))
  (ad:Addr) (c:Nat) (hx:a.eval x=.slice (some ad) 2 c) (hnews:∀ j u,([.int .i64 y1,.int .i64 y2]:List Value)[j]? = some u->w.cell? (ad.add j)=some u)
  (hl:l.length+2<=1000000000) (hbase:base<=w.heap.size)
  (h:∀ v' w' l',Hid (l'=l++[y1,y2])->w'.ownsRow base e 1 v' l'.length (flat intE l')->w.grownBy w' v.ownBlock->wpList P ops Q rest (a.put o.dst v') w'):wpList P ops Q (o::rest) a w:=by
 obtain⟨i0,hi,hz0,hz1,hz2⟩:=info_parts hinfo;refine wpList_append_own_at w hgd s x t ho base e i0 (.int .i64 0) 1 bytes ht hi hz0 hz1 hz2 rfl (by decide) v l.length (flat intE l) hs hown ad 2 c [.int .i64 y1,.int .i64 y2] hx rfl hnews (by simp [Value.oneCell']) (by unfold maxLen;omega) ?_ hbase ?_
 ·have:(l.length+2)*bytes<=1000000000*100:=Nat.mul_le_mul hl hbb
  omega
 ·intro v' w' h1 h2 _ _
  have e1:flat intE l++[.int .i64 y1,.int .i64 y2]=flat intE (l++[y1,y2]):=by rw [ZaL];simp [flat,intE]
  rw [e1] at h1;exact h v' w' (l++[y1,y2]) rfl (by simpa using h1) h2
def inB (x a b:Int):Bool:=decide (a<=x)&&decide (x<=b)
theorem Zbo (x a b:Int)(w:World):Calls Tryz.prog 70 #[.int .i64 x,.int .i64 a,.int .i64 b] w fun e w'=>e=.returned (.bool (inB x a b))/\w=w':=by
 by_cases h1:a<=x <;> by_cases h2:x<=b
 all_goals
  go_enter Tryz.func70,Tryz.ntmps70
  go_wp2
  go_ret
  exact⟨by simp [inB,h1,h2],rfl⟩

structure NetD where
 n:Int
 ls:List Lk
 ts:List Th
 deriving DecidableEq
def Zi7 (W:World)(v:Value)(x:NetD)(B:Nat):Prop:=∃ v1 v2,v=.agg #[.int .i64 x.n,v1,v2]/\Za0 W v1 x.ls B/\Zbf W v2 x.ts B
theorem Zi7.then {W W':World}{v:Value}{x:NetD}(h:Zi7 W v x W.heap.size)(hb:Below W.heap.size W W'):Zi7 W' v x W'.heap.size:=by
 obtain⟨v1,v2,hv,h1,h2⟩:=h;exact⟨v1,v2,hv,h1.then hb,h2.then hb⟩
def ZaY (n:Int)(l:Lk):Bool:=inB n 1 6&&inB l.a 1 n&&inB l.b 1 n&&decide (l.a<l.b)&&inB l.c 1 1000&&inB l.r 0 2
def Zbi (a b:Lk):Bool:=decide (a.a<b.a)||(a.a==b.a&&(decide (a.b<b.b)||(a.b==b.b&&decide (a.r<b.r))))
def Zbj (a b:Th):Bool:=decide (a.k<b.k)||(a.k==b.k&&decide (a.o<b.o))
theorem Zio (n:Int)(l:Lk)(w:World):Calls Tryz.prog 108 #[.int .i64 n,lkV l] w fun e w'=>e=.returned (.bool (ZaY n l))/\Below w.heap.size w w':=by
 obtain⟨a,b,c,r⟩:=l;unfold lkV ZaY;simp only []
 generalize hq1:inB n 1 6=q1;generalize hq2:inB a 1 n=q2;generalize hq3:inB b 1 n=q3;generalize hq4:inB c 1 1000=q4;generalize hq5:inB r 0 2=q5;have h1:=Zbo n 1 6;have h2:=Zbo a 1 n;have h3:=Zbo b 1 n;have h4:=Zbo c 1 1000;have h5:=Zbo r 0 2;rw [hq1] at h1;rw [hq2] at h2;rw [hq3] at h3;rw [hq4] at h4;rw [hq5] at h5;have H1:=hide h1;have H2:=hide h2;have H3:=hide h3;have H4:=hide h4;have H5:=hide h5;clear h1 h2 h3 h4 h5 hq1 hq2 hq3 hq4 hq5;cases q1
 ·go_enter Tryz.func108,Tryz.ntmps108
  go_wp2_with fail
  refine (H1.out _).mono ?_
  rintro e w1 ⟨rfl,rfl⟩
  go_wp2
  go_ret
  exact⟨by simp,(Below.refl _ _).alloc (Nat.le_refl _) _⟩
 cases q2
 ·go_enter Tryz.func108,Tryz.ntmps108
  go_wp2_with fail
  refine (H1.out _).mono ?_
  rintro e w1 ⟨rfl,rfl⟩
  go_wp2_with fail
  refine (H2.out _).mono ?_
  rintro e w1 ⟨rfl,rfl⟩
  go_wp2
  go_ret
  exact⟨by simp,(Below.refl _ _).alloc (Nat.le_refl _) _⟩
 cases q3
 ·go_enter Tryz.func108,Tryz.ntmps108
  go_wp2_with fail
  refine (H1.out _).mono ?_
  rintro e w1 ⟨rfl,rfl⟩
  go_wp2_with fail
  refine (H2.out _).mono ?_
  rintro e w1 ⟨rfl,rfl⟩
  go_wp2_with fail
  refine (H3.out _).mono ?_
  rintro e w1 ⟨rfl,rfl⟩
  go_wp2
  go_ret
  exact⟨by simp,(Below.refl _ _).alloc (Nat.le_refl _) _⟩
 by_cases hab:a<b
 ·cases q4
  ·go_enter Tryz.func108,Tryz.ntmps108
   go_wp2_with fail
   refine (H1.out _).mono ?_
   rintro e w1 ⟨rfl,rfl⟩
   go_wp2_with fail
   refine (H2.out _).mono ?_
   rintro e w1 ⟨rfl,rfl⟩
   go_wp2_with fail
   refine (H3.out _).mono ?_
   rintro e w1 ⟨rfl,rfl⟩
   go_wp2_with fail
   refine (H4.out _).mono ?_
   rintro e w1 ⟨rfl,rfl⟩
   go_wp2
   go_ret
   exact⟨by simp,(Below.refl _ _).alloc (Nat.le_refl _) _⟩
  ·go_enter Tryz.func108,Tryz.ntmps108
   go_wp2_with fail
   refine (H1.out _).mono ?_
   rintro e w1 ⟨rfl,rfl⟩
   go_wp2_with fail
   refine (H2.out _).mono ?_
   rintro e w1 ⟨rfl,rfl⟩
   go_wp2_with fail
   refine (H3.out _).mono ?_
   rintro e w1 ⟨rfl,rfl⟩
   go_wp2_with fail
   refine (H4.out _).mono ?_
   rintro e w1 ⟨rfl,rfl⟩
   go_wp2_with fail
   refine (H5.out _).mono ?_
   rintro e w1 ⟨rfl,rfl⟩
   go_wp2
   go_ret
   exact⟨Zaf (by rw [decide_eq_true hab];simp),(Below.refl _ _).alloc (Nat.le_refl _) _⟩
 ·go_enter Tryz.func108,Tryz.ntmps108
  go_wp2_with fail
  refine (H1.out _).mono ?_
  rintro e w1 ⟨rfl,rfl⟩
  go_wp2_with fail
  refine (H2.out _).mono ?_
  rintro e w1 ⟨rfl,rfl⟩
  go_wp2_with fail
  refine (H3.out _).mono ?_
  rintro e w1 ⟨rfl,rfl⟩
  go_wp2
  go_ret
  exact⟨Zaf (by rw [decide_eq_false (show ¬a<b by omega)];simp),(Below.refl _ _).alloc (Nat.le_refl _) _⟩
theorem Zes (l m:Lk)(w:World):Calls Tryz.prog 109 #[lkV l,lkV m] w fun e w'=>e=.returned (.bool (Zbi l m))/\Below w.heap.size w w':=by
 obtain⟨a,b,c,r⟩:=l;obtain⟨a',b',c',r'⟩:=m;unfold lkV
 go_enter Tryz.func109,Tryz.ntmps109
 go_wp2
 all_goals go_ret
 all_goals refine ⟨Zaf ?_,ZaW _ _⟩
 all_goals (simp only [Zbi];grind)
theorem Zet (l m:Th)(w:World):Calls Tryz.prog 110 #[thV l,thV m] w fun e w'=>e=.returned (.bool (Zbj l m))/\Below w.heap.size w w':=by
 obtain⟨a,b,c,r⟩:=l;obtain⟨a',b',c',r'⟩:=m;unfold thV
 go_enter Tryz.func110,Tryz.ntmps110
 go_wp2
 all_goals go_ret
 all_goals refine ⟨Zaf ?_,ZaW _ _⟩
 all_goals (simp only [Zbj];grind)
end Go.Proofs.YtcimbiinljcifaaGreat
