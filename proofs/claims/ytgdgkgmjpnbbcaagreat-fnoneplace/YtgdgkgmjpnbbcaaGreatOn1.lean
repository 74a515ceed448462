/-
  Math Base OwnB Flat StructKit Lk RowAt CostS BoolK OpenS IntRow NextS NearK RecK MarkN AppK
-/
import Derived.WalkKit
import Derived.Laws.IdiomStrings
import Derived.Test.YtgdgkgmjpnbbcaaGreatRows
import Derived.WalkSpells
import Derived.WalkLawsBesides
import Derived.OwnWalk
import Derived.Deep.QuietTactic
import Derived.BigQuiet
import Derived.Handy
import Derived.Deep.RegionHeld3
namespace Go.Proofs.YtgdgkgmjpnbbcaaGreat
open Go.RowKit
set_option linter.unusedSimpArgs false
set_option linter.unusedVariables false
set_option maxRecDepth 100000
set_option maxHeartbeats 8000000
theorem hide {p:Prop}(h:p):Hid p:=h
def bs (l:List UInt8):ByteArray:=⟨l.toArray⟩
theorem add_zero' (b o:Nat):(⟨b,o,none⟩:Addr).add 0=⟨b,o,none⟩:=rfl
theorem ZaO (x:Int)(h0 : -1000000000000000000<=x)(h1:x<=1000000000000000000):IntKind.i64.wrap x=x:=by
 simp only [IntKind.wrap,IntKind.signed,IntKind.bits]
 simp
 omega
theorem Zif {k:IntKind}{a b:Int}(h:a=b):Ending.returned (.int k a)=.returned (.int k b):=by rw [h]

theorem Zaf {w w':World}{base B:Nat}{e:TypeId}{size:Nat}{v:Value}{n:Nat}{xs:List Value}(h:w.ownsRow base e size v n xs)(hb:Below B w w')(hB:w.heap.size<=B):w'.ownsRow base e size v n xs:=by
 refine⟨h.1,?_⟩
 rcases h.2 with h2 | ⟨g,cap,cur,hv,hg,hh,r⟩
 ·exact .inl h2
 ·have hlt:g<w.heap.size:=by
   rcases Nat.lt_or_ge g w.heap.size with hl | hl
   ·exact hl
   ·rw [Array.getElem?_eq_none hl] at hh;cases hh
  exact .inr ⟨g,cap,cur,hv,hg,by rw [hb.block g (by omega)];exact hh,r⟩
theorem ZfD {w:World}{base:Nat}{e:TypeId}{v:Value}{n:Nat}{xs:List Value}(h:w.ownsRow base e 1 v n xs)(hn:0<n):
  ∃ g cap,v=.slice (some ⟨g,0,none⟩) n cap/\base<=g/\g<w.heap.size:=by
 rcases h.2 with ⟨_,h0⟩ | ⟨g,cap,cur,hv,hb,hg,_⟩
 ·omega
 ·refine ⟨g,cap,hv,hb,?_⟩
  rcases Nat.lt_or_ge g w.heap.size with hlt | hge
  ·exact hlt
  ·rw [Array.getElem?_eq_none hge] at hg;cases hg
theorem Zf9 {w:World}{base:Nat}{e:TypeId}{v:Value}{n:Nat}{xs:List Value}(h:w.ownsRow base e 1 v n xs):∃ a cap,v=.slice a n cap:=by
 rcases h.2 with ⟨h1,h0⟩ | ⟨g,cap,cur,hv,_⟩
 ·exact ⟨none,0,by rw [h1,h0]⟩
 ·exact ⟨_,cap,hv⟩
theorem Zac {w:World}{base size:Nat}{e:TypeId}{v:Value}{n:Nat}{xs:List Value}(h:w.ownsRow base e size v n xs):∃ a cap,v=.slice a n cap:=by
 rcases h.2 with ⟨h1,h0⟩ | ⟨g,cap,cur,hv,_⟩
 ·exact ⟨none,0,by rw [h1,h0]⟩
 ·exact ⟨_,cap,hv⟩
theorem Zah {w:World}{b0 b1 size:Nat}{e:TypeId}{v:Value}{n:Nat}{xs:List Value}(h:w.ownsRow b1 e size v n xs)(hb:b0<=b1):w.ownsRow b0 e size v n xs:=by
 refine⟨h.1,?_⟩
 rcases h.2 with h2 | ⟨g,cap,cur,hv,hg,r⟩
 ·exact .inl h2
 ·exact .inr ⟨g,cap,cur,hv,Nat.le_trans hb hg,r⟩
theorem ZaH {w:World}{base size p j:Nat}{e:TypeId}{v u:Value}{n:Nat}{xs:List Value}(h:w.ownsRow base e size v n xs)(hp:p<base):(w.setCell ⟨p,j,none⟩ u).ownsRow base e size v n xs:=by
 refine⟨h.1,?_⟩
 rcases h.2 with h2 | ⟨g,cap,cur,hv,hg,hh,r⟩
 ·exact .inl h2
 ·exact .inr ⟨g,cap,cur,hv,hg,by rw [heap_setCell_other w ⟨p,j,none⟩ g _ (by show g≠p;omega)];exact hh,r⟩
theorem Zi5 {w:World}{b0 b1:Nat}{e:TypeId}{v:Value}{n:Nat}{xs:List Value}(h:w.ownsRow b1 e 1 v n xs)(hb:b0<=b1):w.ownsRow b0 e 1 v n xs:=by
 refine⟨h.1,?_⟩
 rcases h.2 with h2 | ⟨g,cap,cur,hv,hg,r⟩
 ·exact .inl h2
 ·exact .inr ⟨g,cap,cur,hv,Nat.le_trans hb hg,r⟩
theorem Zaa {w:World}{p:Nat}{C:Array Value}{t:TypeId}(h:w.heap[p]? = some (.cells C t (0,0)))(j:Nat):w.cell? ⟨p,j,none⟩=C[j]? := by
 simp [World.cell?,h]
theorem Zae {w:World}{p:Nat}{C:Array Value}{t:TypeId}(h:w.heap[p]? = some (.cells C t (0,0)))(j:Nat):w.frozen? ⟨p,j,none⟩=false:=by
 simp [World.frozen?,h]
theorem Zal (w:World)(p j:Nat)(v:Value):w.grownBy (w.setCell ⟨p,j,none⟩ v) (some p):=⟨rfl,rfl,rfl,by simp,fun k _ hk=>heap_setCell_other w ⟨p,j,none⟩ k _ (fun e=>hk (by simp [e]))⟩
theorem Zex (w:World)(n:Nat)(row:Option Nat):w.grownBy (w.drewN n) row:=⟨rfl,rfl,rfl,Nat.le_refl _,fun _ _ _=>rfl⟩
theorem Zai {a b c:World}{row:Option Nat}(h:a.grownBy b row)(k:b.grownBy c row):a.grownBy c row:=
 ⟨k.os.trans h.os,k.tape.trans h.tape,k.output.trans h.output,Nat.le_trans h.size k.size,fun i hi hr=>(k.block i (Nat.lt_of_lt_of_le hi h.size) hr).trans (h.block i hi hr)⟩
theorem Zab {w:World}{p:Nat}{o:Obj}(h:w.heap[p]? = some o):p<w.heap.size:=by
 rcases Nat.lt_or_ge p w.heap.size with hl | hl
 ·exact hl
 ·rw [Array.getElem?_eq_none hl] at h;cases h
end Go.Proofs.YtgdgkgmjpnbbcaaGreat
namespace Go.Proofs.YtgdgkgmjpnbbcaaGreat
open Go.RowKit

def flat {α:Type}(enc:α->List Value)(xs:List α):List Value:=xs.flatMap enc

section
variable {α:Type} {enc:α->List Value} {sz:Nat}

theorem Zcv (x:α)(xs:List α):flat enc (x::xs)=enc x++flat enc xs:=rfl

theorem ZaX (h:∀ a,(enc a).length=sz)(xs:List α):(flat enc xs).length=xs.length*sz:=by
 induction xs with
 | nil=>simp [flat]
 | cons x xs ih=>rw [Zcv,List.length_append,h,ih,List.length_cons,Nat.add_mul,Nat.one_mul,Nat.add_comm]

theorem ZdB (h:∀ a,(enc a).length=sz):∀ (xs:List α) (i r:Nat) (x:α),xs[i]? = some x->r<sz->(flat enc xs)[i*sz+r]? = (enc x)[r]?
 | [],i,r,x,hx,_=>by simp at hx
 | y::ys,0,r,x,hx,hr=>by
  simp at hx
  subst hx;rw [Zcv,Nat.zero_mul,Nat.zero_add,List.getElem?_append_left (by rw [h];exact hr)]
 | y::ys,i+1,r,x,hx,hr=>by
  have e:(i+1)*sz+r=sz+(i*sz+r):=by rw [Nat.add_mul,Nat.one_mul];omega
  rw [Zcv,List.getElem?_append_right (by rw [h,e];omega),h,e,Nat.add_sub_cancel_left]
  exact ZdB h ys i r x (by simpa using hx) hr

def setL:List Value->Nat->List Value->List Value
 | xs,_,[]=>xs
 | xs,off,v::vs=>setL (xs.set off v) (off+1) vs

theorem ZeL (a b:List Value):∀ (off:Nat) (vs:List Value),setL (a++b) (a.length+off) vs=a++setL b off vs
 | _,[]=>rfl
 | off,v::vs=>by
  unfold setL;rw [List.set_append_right _ _ (by omega),Nat.add_sub_cancel_left]
  exact ZeL a (b.set off v) (off+1) vs

theorem Zjb:∀ (vs b c:List Value),b.length=vs.length->setL (b++c) 0 vs=vs++c
 | [],b,c,h=>by
  have:b=[]:=List.length_eq_zero_iff.1 (by simpa using h)
  subst this
  rfl
 | v::vs,[],c,h=>by simp at h
 | v::vs,x::b,c,h=>by
  have h2:setL ([v]++(b++c)) ([v].length+0) vs=[v]++setL (b++c) 0 vs:=ZeL [v] (b++c) 0 vs;unfold setL;simp only [List.cons_append,List.set_cons_zero]
  simp only [List.cons_append,List.nil_append,List.length_cons,List.length_nil,Nat.add_zero] at h2
  rw [Nat.zero_add,h2,Zjb vs b c (by simpa using h)]

theorem ZhX (h:∀ a,(enc a).length=sz):∀ (xs:List α) (k:Nat) (x:α),k<xs.length->setL (flat enc xs) (k*sz) (enc x)=flat enc (xs.set k x)
 | [],k,x,hk=>by simp at hk
 | y::ys,0,x,_=>by
  rw [Nat.zero_mul,Zcv,Zjb _ _ _ (by rw [h,h]),List.set_cons_zero,Zcv]
 | y::ys,k+1,x,hk=>by
  have e:(k+1)*sz=(enc y).length+k*sz:=by rw [h,Nat.add_mul,Nat.one_mul,Nat.add_comm]
  rw [Zcv,e,ZeL,ZhX h ys k x (by simpa using hk),List.set_cons_succ,Zcv]
end

def ZaR (W:World)(v:Value)(n sz:Nat)(f:Nat->Value)(B:Nat):Prop:=
 ∃ a cap,v=.slice a n cap/\(n=0\/∃ b off,a=some ⟨b,off,none⟩/\b<B/\∀ j,j<n*sz->W.cell? ⟨b,off+j,none⟩=some (f j))

theorem ZaR.later {W W':World}{v:Value}{n sz:Nat}{f:Nat->Value}{B C:Nat}(h:ZaR W v n sz f B)(hb:Below C W W')(hBC:B<=C):ZaR W' v n sz f B:=by
 obtain⟨a,cap,hv,h2⟩:=h;refine⟨a,cap,hv,?_⟩
 rcases h2 with h0 | ⟨b,off,ha,hb1,hx⟩
 ·exact .inl h0
 ·exact .inr ⟨b,off,ha,hb1,fun j hj=>by rw [hb.cell (p:=⟨b,off+j,none⟩) (by show b<C;omega)];exact hx j hj⟩

theorem ZaR.more {W:World}{v:Value}{n sz:Nat}{f:Nat->Value}{B C:Nat}(h:ZaR W v n sz f B)(hBC:B<=C):ZaR W v n sz f C:=by
 obtain⟨a,cap,hv,h2⟩:=h;refine⟨a,cap,hv,?_⟩
 rcases h2 with h0 | ⟨b,off,ha,hb1,hx⟩
 ·exact .inl h0
 ·exact .inr ⟨b,off,ha,by omega,hx⟩

theorem ZaR.then {W W':World}{v:Value}{n sz:Nat}{f:Nat->Value}(h:ZaR W v n sz f W.heap.size)(hb:Below W.heap.size W W'):ZaR W' v n sz f W'.heap.size:=(h.later hb (Nat.le_refl _)).more hb.size

def Za5 {α:Type}(enc:α->List Value)(sz:Nat)(W:World)(v:Value)(xs:List α)(B:Nat):Prop:=ZaR W v xs.length sz (fun j=>(flat enc xs).getD j undef) B

section
variable {α:Type} {enc:α->List Value} {sz:Nat}

theorem Za5.cell {W:World}{v:Value}{xs:List α}{B:Nat}(h:Za5 enc sz W v xs B)(hs:∀ a,(enc a).length=sz)(i:Nat)(x:α)(hx:xs[i]? = some x):
  ∃ b off cap,v=.slice (some ⟨b,off,none⟩) xs.length cap/\b<B/\∀ r u,(enc x)[r]? = some u->W.cell? ⟨b,off+i*sz+r,none⟩=some u:=by
 have hi:i<xs.length:=(List.getElem?_eq_some_iff.1 hx).1;obtain⟨a,cap,hv,h2⟩:=h
 rcases h2 with h0 | ⟨b,off,ha,hb,hc⟩
 ·omega
 ·refine ⟨b,off,cap,by rw [hv,ha],hb,fun r u hu=>?_⟩
  have hr:r<sz:=by have:=(List.getElem?_eq_some_iff.1 hu).1;rw [hs] at this;exact this
  have hg:=ZdB hs xs i r x hx hr;have hlt:i*sz+r<xs.length*sz:=by
   have:(i+1)*sz<=xs.length*sz:=Nat.mul_le_mul_right _ hi;rw [Nat.add_mul,Nat.one_mul] at this;omega
  rw [Nat.add_assoc,hc _ hlt];simp only [List.getD_eq_getElem?_getD,hg,hu]
  rfl

theorem Zar {W:World}{base:Nat}{e:TypeId}{v:Value}{xs:List α}(h:W.ownsRow base e sz v xs.length (flat enc xs)):Za5 enc sz W v xs W.heap.size:=by
 rcases h.2 with ⟨hv,h0⟩ | ⟨g,cap,cur,hv,hg,hh,hnc,hcm,hcs,htk⟩
 ·exact ⟨none,0,by rw [hv,h0],.inl h0⟩
 ·have hlt:g<W.heap.size:=by
   rcases Nat.lt_or_ge g W.heap.size with hl | hl
   ·exact hl
   ·rw [Array.getElem?_eq_none hl] at hh;cases hh
  refine⟨_,cap,hv,.inr ⟨g,0,rfl,hlt,fun j hj=>?_⟩⟩
  rw [Nat.zero_add];simp only [World.cell?,hh]
  have hj2:j<cur.size:=by
   have:xs.length*sz<=cap*sz:=Nat.mul_le_mul_right _ hnc;omega
  have e1:(flat enc xs)[j]? = cur.toList[j]? := by rw [<-htk,List.getElem?_take_of_lt hj]
  simp [List.getD,e1,hj2]
end
end Go.Proofs.YtgdgkgmjpnbbcaaGreat
namespace Go.Proofs.YtgdgkgmjpnbbcaaGreat
open Go.RowKit
set_option linter.unusedSimpArgs false
set_option linter.unusedVariables false
set_option maxRecDepth 100000
set_option maxHeartbeats 8000000
theorem Za6 {w:World}(o1 o2:Obj):Below w.heap.size w ((w.alloc o1).alloc o2):=((Below.refl _ _).alloc (Nat.le_refl _) _).alloc (by simp) _
theorem Zgh {w:World}(o1 o2 o3:Obj):Below w.heap.size w (((w.alloc o1).alloc o2).alloc o3):=(Za6 o1 o2).alloc (by simp;omega) _
theorem Zmb (w:World)(a b c:Obj):(((w.alloc a).alloc b).alloc c).heap[w.heap.size]? = some a:=by
 rw [Below.heap_alloc _ _ _ (by simp;omega),Below.heap_alloc _ _ _ (by simp),heap_alloc_new]
theorem Zmc (w:World)(a b c:Obj):(((w.alloc a).alloc b).alloc c).heap[w.heap.size+1]? = some b:=by
 rw [Below.heap_alloc _ _ _ (by simp)]
 have:=heap_alloc_new (w.alloc a) b
 simpa using this
theorem Zmd (w:World)(a b c:Obj):(((w.alloc a).alloc b).alloc c).heap[w.heap.size+1+1]? = some c:=by
 have:=heap_alloc_new ((w.alloc a).alloc b) c
 simpa using this
theorem Zam {a b:Bool}(h:b=a):Ending.returned (.bool a)=.returned (.bool b):=by rw [h]
structure Lk where
 a:Int
 b:Int
 c:Int
 r:Int
 deriving DecidableEq
structure Th where
 o:Int
 k:Int
 c:Int
 f:Bool
 deriving DecidableEq
def lkV (l:Lk):Value:=.agg #[.int .i64 l.a,.int .i64 l.b,.int .i64 l.c,.int .i64 l.r]
def thV (t:Th):Value:=.agg #[.int .i64 t.o,.int .i64 t.k,.int .i64 t.c,.bool t.f]
def lkE (l:Lk):List Value:=[.int .i64 l.a,.int .i64 l.b,.int .i64 l.c,.int .i64 l.r]
def thE (t:Th):List Value:=[.int .i64 t.o,.int .i64 t.k,.int .i64 t.c,.bool t.f]
theorem Zgz (l:Lk):(lkE l).length=4:=rfl
theorem Zig (t:Th):(thE t).length=4:=rfl
def Zbh (W:World)(v:Value)(ls:List Lk)(B:Nat):Prop:=Za5 lkE 4 W v ls B
def Zbv (W:World)(v:Value)(ts:List Th)(B:Nat):Prop:=Za5 thE 4 W v ts B
theorem Zbh.then {W W':World}{v:Value}{ls:List Lk}(h:Zbh W v ls W.heap.size)(hb:Below W.heap.size W W'):Zbh W' v ls W'.heap.size:=ZaR.then h hb
theorem Zbv.then {W W':World}{v:Value}{ls:List Th}(h:Zbv W v ls W.heap.size)(hb:Below W.heap.size W W'):Zbv W' v ls W'.heap.size:=ZaR.then h hb
theorem Zbh.shape {W:World}{v:Value}{ls:List Lk}{B:Nat}(h:Zbh W v ls B):∃ a cap,v=.slice a ls.length cap:=by obtain ⟨a,cap,h,_⟩:=h;exact⟨a,cap,h⟩
theorem Zbv.shape {W:World}{v:Value}{ls:List Th}{B:Nat}(h:Zbv W v ls B):∃ a cap,v=.slice a ls.length cap:=by obtain ⟨a,cap,h,_⟩:=h;exact⟨a,cap,h⟩
theorem Zbh.cells {W:World}{v:Value}{ls:List Lk}{B:Nat}(h:Zbh W v ls B)(i:Nat)(l:Lk)(hl:ls[i]? = some l):
  ∃ b off cap,v=.slice (some ⟨b,off,none⟩) ls.length cap/\b<B/\W.cell? ⟨b,off+i*4,none⟩=some (.int .i64 l.a)/\W.cell? ⟨b,off+i*4+1,none⟩=some (.int .i64 l.b) /\
   W.cell? ⟨b,off+i*4+2,none⟩=some (.int .i64 l.c)/\W.cell? ⟨b,off+i*4+3,none⟩=some (.int .i64 l.r):=by
 obtain⟨b,off,cap,hv,hb,hc⟩:=Za5.cell h Zgz i l hl;exact⟨b,off,cap,hv,hb,hc 0 _ rfl,hc 1 _ rfl,hc 2 _ rfl,hc 3 _ rfl⟩
theorem Zbv.cells {W:World}{v:Value}{ls:List Th}{B:Nat}(h:Zbv W v ls B)(i:Nat)(l:Th)(hl:ls[i]? = some l):
  ∃ b off cap,v=.slice (some ⟨b,off,none⟩) ls.length cap/\b<B/\W.cell? ⟨b,off+i*4,none⟩=some (.int .i64 l.o)/\W.cell? ⟨b,off+i*4+1,none⟩=some (.int .i64 l.k) /\
   W.cell? ⟨b,off+i*4+2,none⟩=some (.int .i64 l.c)/\W.cell? ⟨b,off+i*4+3,none⟩=some (.bool l.f):=by
 obtain⟨b,off,cap,hv,hb,hc⟩:=Za5.cell h Zig i l hl;exact⟨b,off,cap,hv,hb,hc 0 _ rfl,hc 1 _ rfl,hc 2 _ rfl,hc 3 _ rfl⟩
def ZdJ (f t r:Int)(l:Lk):Bool:=l.r==r&&((l.a==f&&l.b==t)||(l.a==t&&l.b==f))
def ZdO (ls:List Lk)(f t r:Int):Int:=((ls.find? (ZdJ f t r)).map (·.c)).getD 0
theorem Zft {α:Type}(p:α->Bool):∀ (ls:List α) (k:Nat) (l:α),(∀ j,j<k->∀ x,ls[j]? = some x->p x=false)->ls[k]? = some l->p l=true->ls.find? p=some l
 | [],_,_,_,h,_=>by simp at h
 | y::ys,0,l,_,h,hp=>by simp at h;subst h;simp [hp]
 | y::ys,k+1,l,hno,h,hp=>by
  have h0:=hno 0 (by omega) y rfl
  rw [List.find?_cons,h0];exact Zft p ys k l (fun j hj x hx=>hno (j+1) (by omega) x (by simpa using hx)) (by simpa using h) hp
theorem Zhd {α:Type}(p:α->Bool)(ls:List α)(h:∀ j,j<ls.length->∀ x,ls[j]? = some x->p x=false):ls.find? p=none:=by
 rw [List.find?_eq_none];intro x hx;obtain⟨i,hi,e⟩:=List.mem_iff_getElem.1 hx;rw [h i hi x (by rw [List.getElem?_eq_getElem hi,e])]
 decide
theorem ZjV {α:Type}{p:α->Bool}{ls:List α}{k:Nat}{l:α}(h:∀ j,j<k->∀ x,ls[j]? = some x->p x=false)(hl:ls[k]? = some l)(hp:p l=false):∀ j,j<k+1->∀ x,ls[j]? = some x->p x=false:=by
 intro j hj x hx;by_cases e:j=k
 ·subst e;rw [hl] at hx;cases hx;exact hp
 ·exact h j (by omega) x hx
theorem Znu {ls:List Lk}{f t r:Int}{k:Nat}{l:Lk}(h:∀ j,j<k->∀ x,ls[j]? = some x->ZdJ f t r x=false)(hl:ls[k]? = some l)(hp:ZdJ f t r l=true):ZdO ls f t r=l.c:=by
 unfold ZdO;rw [Zft _ ls k l h hl hp];rfl
theorem ZiG {ls:List Lk}{f t r:Int}{k:Nat}{l:Lk}(h:∀ j,j<k->∀ x,ls[j]? = some x->ZdJ f t r x=false)(hl:ls[k]? = some l)(hp:ZdJ f t r l=false):∀ j,j<k+1->∀ x,ls[j]? = some x->ZdJ f t r x=false:=ZjV h hl hp
theorem Zl1 {ls:List Lk}{f t r:Int}{k:Nat}(h:∀ j,j<k->∀ x,ls[j]? = some x->ZdJ f t r x=false)(hk:k=ls.length):ZdO ls f t r=0:=by
 unfold ZdO;rw [Zhd _ ls (by rw [<-hk];exact h)];rfl
theorem ZmV (n:Value)(v tv:Value)(ls:List Lk)(f t r:Int)(w:World)(hls:ls.length<=1048576)(hv:Zbh w v ls w.heap.size):
  Calls Tryz.prog 65 #[.agg #[n,v,tv],.int .i64 f,.int .i64 t,.int .i64 r] w fun e w'=>e=.returned (.int .i64 (ZdO ls f t r))/\Below w.heap.size w w':=by
 obtain⟨a,cap,rfl⟩:∃ a cap,v=.slice a ls.length cap:=by obtain ⟨a,cap,h,_⟩:=hv;exact⟨a,cap,h⟩
 have HV:=hide hv;clear hv
 go_enter Tryz.func65,Tryz.ntmps65
 go_wp2
 go_loopw [9] (fun i wr=>∃ k:Nat,k<=ls.length/\i=.int .i64 k/\(∀ j,j<k->∀ l,ls[j]? = some l->ZdJ f t r l=false)/\Below w.heap.size w wr/\wr.heap[w.heap.size]? = some (.cells #[n,.slice a ls.length cap,tv] 27)) (fun i _=>ls.length-(intOf i).toNat)
 case atStart=>exact ⟨0,by omega,rfl,by omega,(Below.refl _ _).alloc (Nat.le_refl _) _,heap_alloc_new w _⟩
 case round=>
  obtain⟨k,hk,rfl,hno,hb,hx⟩:=hrel;have hx1:wr.cell? ⟨w.heap.size,1,none⟩=some (.slice a ls.length cap):=by rw [Zaa hx];rfl
  have HX:=hide hx;have HNO:=hide hno;clear hx hno;by_cases hlt:k<ls.length
  ·obtain ⟨l,hl⟩:∃ l,ls[k]? = some l:=⟨ls[k],List.getElem?_eq_getElem hlt⟩
   obtain⟨b,off,cap',hve,hbb,c0,c1,c2,c3⟩:=HV.out.cells k l hl;cases hve
   rw [<-hb.cell (p:=⟨b,off+k*4,none⟩) hbb] at c0;rw [<-hb.cell (p:=⟨b,off+k*4+1,none⟩) hbb] at c1;rw [<-hb.cell (p:=⟨b,off+k*4+2,none⟩) hbb] at c2;rw [<-hb.cell (p:=⟨b,off+k*4+3,none⟩) hbb] at c3;have HL:=hide hl;clear hl;obtain⟨la,lb,lc,lr⟩:=l
   go_wp2
   all_goals first
    | (go_ret
       refine⟨Zif (Znu HNO.out HL.out ?_).symm,hb.alloc hb.size _⟩
       clear HV HX HL HNO hb hx1 c0 c1 c2 c3;simp only [ZdJ]
       grind)
    | (refine ⟨⟨k+1,by omega,by go_num,ZiG HNO.out HL.out ?_,hb.alloc hb.size _,?_⟩,by simp [intOf];omega⟩
       ·clear HV HX HL HNO hb hx1 c0 c1 c2 c3
        simp only [ZdJ]
        grind
       ·rw [Below.heap_alloc _ _ _ (Zab HX.out)];exact HX.out)
    | (subst_vars
       refine⟨⟨k+1,by omega,by go_num,ZiG HNO.out HL.out ?_,hb.alloc hb.size _,?_⟩,by simp [intOf];omega⟩
       ·clear HV HX HL HNO hb hx1 c0 c1 c2 c3
        simp only [ZdJ]
        grind
       ·rw [Below.heap_alloc _ _ _ (Zab HX.out)];exact HX.out)
  ·have hk':k=ls.length:=by omega
   have HK:=hide hk';clear hk'
   go_wp2
   go_ret
   exact⟨Zif (Zl1 HNO.out HK.out).symm,hb⟩
def blE (b:Bool):List Value:=[.bool b]
theorem ZlV (b:Bool):(blE b).length=1:=rfl
theorem ZlW (b:Bool):∀ u∈blE b,u.oneCell'=true:=by
 intro u hu;simp only [blE,List.mem_cons,List.not_mem_nil,or_false] at hu
 subst hu;rfl
def Zb1 (W:World)(v:Value)(bs:List Bool)(B:Nat):Prop:=Za5 blE 1 W v bs B
theorem Zb1.shape {W:World}{v:Value}{bs:List Bool}{B:Nat}(h:Zb1 W v bs B):∃ a cap,v=.slice a bs.length cap:=by obtain ⟨a,cap,h,_⟩:=h;exact⟨a,cap,h⟩
theorem Zb1.cell {W:World}{v:Value}{bs:List Bool}{B:Nat}(h:Zb1 W v bs B)(i:Nat)(b:Bool)(hb:bs[i]? = some b):∃ g off cap,v=.slice (some ⟨g,off,none⟩) bs.length cap/\g<B/\W.cell? ⟨g,off+i,none⟩=some (.bool b):=by
 obtain⟨g,off,cap,hv,hg,hc⟩:=Za5.cell h ZlV i b hb;refine⟨g,off,cap,hv,hg,?_⟩
 have:=hc 0 _ rfl
 simpa using this
def Zg3 (f t r:Int)(p:Lk × Bool):Bool:=p.2&&ZdJ f t r p.1
def ZdY (ls:List Lk)(bs:List Bool)(f t r:Int):Int:=(((ls.zip bs).find? (Zg3 f t r)).map (·.1.c)).getD 0
theorem zip_at {ls:List Lk}{bs:List Bool}{k:Nat}{l:Lk}{b:Bool}(h:ls[k]? = some l)(hb:bs[k]? = some b):(ls.zip bs)[k]? = some (l,b):=by
 rw [List.getElem?_zip_eq_some];exact⟨h,hb⟩
theorem Zn4 {ls:List Lk}{bs:List Bool}{f t r:Int}{k:Nat}{l:Lk}{b:Bool}(h:∀ j,j<k->∀ x,(ls.zip bs)[j]? = some x->Zg3 f t r x=false)(hl:(ls.zip bs)[k]? = some (l,b))(hp:Zg3 f t r (l,b)=true):ZdY ls bs f t r=l.c:=by
 unfold ZdY;rw [Zft _ _ k _ h hl hp];rfl
theorem ZmE {ls:List Lk}{bs:List Bool}{f t r:Int}{k:Nat}(h:∀ j,j<k->∀ x,(ls.zip bs)[j]? = some x->Zg3 f t r x=false)(hk:k=ls.length):ZdY ls bs f t r=0:=by
 unfold ZdY;rw [Zhd _ _ (fun j hj=>h j (by rw [List.length_zip] at hj;omega))];rfl
def NoHit (ls:List Lk)(bs:List Bool)(f t r:Int)(k:Nat):Prop:=∀ j,j<k->∀ x,(ls.zip bs)[j]? = some x->Zg3 f t r x=false
theorem ZmZ (n:Value)(v tv y:Value)(ls:List Lk)(bs:List Bool)(f t r:Int)(w:World)(hls:ls.length<=1048576)(hbs:bs.length=ls.length)(hv:Zbh w v ls w.heap.size)(hy:Zb1 w y bs w.heap.size):
  Calls Tryz.prog 18 #[.agg #[n,v,tv],y,.int .i64 f,.int .i64 t,.int .i64 r] w fun e w'=>e=.returned (.int .i64 (ZdY ls bs f t r))/\Below w.heap.size w w':=by
 obtain⟨a,cap,rfl⟩:∃ a cap,v=.slice a ls.length cap:=by obtain ⟨a,cap,h,_⟩:=hv;exact⟨a,cap,h⟩
 obtain⟨a2,cap2,rfl⟩:=hy.shape;have HV:=hide hv;have HY:=hide hy;have HBS:=hide hbs;clear hv hy hbs
 go_enter Tryz.func18,Tryz.ntmps18
 go_wp2
 go_loopw [11] (fun i wr=>∃ k:Nat,k<=ls.length/\i=.int .i64 k/\NoHit ls bs f t r k/\Below w.heap.size w wr/\wr.heap[w.heap.size]? = some (.cells #[n,.slice a ls.length cap,tv] 27)) (fun i _=>ls.length-(intOf i).toNat)
 case atStart=>exact ⟨0,by omega,rfl,fun j hj=>absurd hj (Nat.not_lt_zero _),(Below.refl _ _).alloc (Nat.le_refl _) _,heap_alloc_new w _⟩
 case round=>
  obtain⟨k,hk,rfl,hno,hb,hx⟩:=hrel;have hx1:wr.cell? ⟨w.heap.size,1,none⟩=some (.slice a ls.length cap):=by rw [Zaa hx];rfl
  have HX:=hide hx;have HNO:=hide hno;clear hx hno;by_cases hlt:k<ls.length
  ·obtain ⟨l,hl⟩:∃ l,ls[k]? = some l:=⟨ls[k],List.getElem?_eq_getElem hlt⟩
   have hltb:k<bs.length:=by have:=HBS.out;omega
   obtain⟨b1,hb1⟩:∃ b,bs[k]? = some b:=⟨bs[k],List.getElem?_eq_getElem hltb⟩;obtain⟨b,off,cap',hve,hbb,c0,c1,c2,c3⟩:=HV.out.cells k l hl;cases hve
   obtain⟨g,off2,cap2',hve2,hgg,d0⟩:=HY.out.cell k b1 hb1;cases hve2
   rw [<-hb.cell (p:=⟨b,off+k*4,none⟩) hbb] at c0;rw [<-hb.cell (p:=⟨b,off+k*4+1,none⟩) hbb] at c1;rw [<-hb.cell (p:=⟨b,off+k*4+2,none⟩) hbb] at c2;rw [<-hb.cell (p:=⟨b,off+k*4+3,none⟩) hbb] at c3;rw [<-hb.cell (p:=⟨g,off2+k,none⟩) hgg] at d0;have HL:=hide (zip_at hl hb1);have hlb:(k:Int)<(bs.length:Int):=by omega
   have hgw:g<wr.heap.size:=by have:=hb.size;omega
   clear hl hb1 hgg;obtain⟨la,lb,lc,lr⟩:=l;cases b1
   all_goals go_wp2
   all_goals first
    | (go_ret
       refine⟨Zif (Zn4 HNO.out HL.out ?_).symm,hb.alloc hb.size _⟩
       clear HV HX HL HNO hb hx1 c0 c1 c2 c3 d0 HY;simp only [Zg3,ZdJ]
       grind)
    | (refine ⟨⟨k+1,by omega,by go_num,ZjV HNO.out HL.out ?_,hb.alloc hb.size _,?_⟩,by simp [intOf];omega⟩
       ·clear HV HX HL HNO hb hx1 c0 c1 c2 c3 d0 HY
        simp only [Zg3,ZdJ]
        grind
       ·rw [Below.heap_alloc _ _ _ (Zab HX.out)];exact HX.out)
    | (subst_vars
       refine⟨⟨k+1,by omega,by go_num,ZjV HNO.out HL.out ?_,hb.alloc hb.size _,?_⟩,by simp [intOf];omega⟩
       ·clear HV HX HL HNO hb hx1 c0 c1 c2 c3 d0 HY
        simp only [Zg3,ZdJ]
        grind
       ·rw [Below.heap_alloc _ _ _ (Zab HX.out)];exact HX.out)
  ·have hk':k=ls.length:=by omega
   have HK:=hide hk';clear hk'
   go_wp2
   go_ret
   exact⟨Zif (ZmE HNO.out HK.out).symm,hb⟩
def ZbH (l:List Int):List Value:=l.map fun z=>Value.int .i64 z
theorem Zh2 (a b:List Int):ZbH (a++b)=ZbH a++ZbH b:=by simp [ZbH]
theorem Tryz.info3:(Tryz.prog.info? 3).map (fun i=>(i.zero,i.size,i.bytes))=some (some (.int .i64 0),1,8):=by kernel_rfl
theorem Zdv {P:Program}(w:World){ops:Array Oper}{rest:List Oper}{o:Oper}{a:Act}{Q:Exit->Act->World->Prop}(hgd:o.guard=none)(s x:Operand)(t:TypeId)
  (ho:o.op=.call { callee:=.builtin .append,args:=#[s,x],argTypes:=#[t,t] }) (base:Nat) (e:TypeId) (ht:P.underlying t=some (.slice e))
  (hinfo:(P.info? e).map (fun i=>(i.zero,i.size,i.bytes))=some (some (.int .i64 0),1,8))
  (v:Value) (l:List Int) (z:Int) (hs:a.eval s=v) (hown:w.ownsRow base e 1 v l.length (ZbH l))
  (ad:Addr) (c:Nat) (hx:a.eval x=.slice (some ad) 1 c) (hnews:w.cell? (ad.add 0)=some (.int .i64 z))
  (hlen:l.length+1<=1000000000) (hbase:base<=w.heap.size)
  (h:∀ v' w' l',Hid (l'=l++[z])->w'.ownsRow base e 1 v' l'.length (ZbH l')->w.grownBy w' v.ownBlock->wpList P ops Q rest (a.put o.dst v') w'):wpList P ops Q (o::rest) a w:=by
 obtain⟨i0,hi,hz0,hz1,hz2⟩:=info_parts hinfo;refine wpList_append_own w hgd s x t ho base e i0 (.int .i64 0) 1 8 ht hi hz0 hz1 hz2 rfl (by decide) v l.length (ZbH l) hs hown ad 1 c (ZbH [z]) hx (by simp [ZbH]) ?_ ?_ (by unfold maxLen;omega) (by omega) hbase ?_
 ·intro j u hj
  have hj':j=0:=by have:=(List.getElem?_eq_some_iff.1 hj).1;simp [ZbH] at this;omega
  subst hj';rw [hnews]
  simpa [ZbH] using hj
 ·intro u hu
  simp only [ZbH,List.mem_map] at hu
  obtain⟨b,_,rfl⟩:=hu
  rfl
 ·intro v' w' h1 h2 _
  rw [<-Zh2] at h1;exact h v' w' (l++[z]) rfl (by simpa using h1) h2
def ZdK (ls:List Lk)(v r:Int):List Int:=([1,2,3,4,5,6]:List Int).filter fun u=>decide (0<ZdO ls v u r)
def ZaC (ls:List Lk)(v:Int):List Int:=([0,1,2]:List Int).filter fun r=>decide (0<(ZdK ls v r).length)
def ZeS (ls:List Lk)(v:Int):Bool:=decide (1<(ZaC ls v).length)&&((ZaC ls v).head? == some 0)
def Zb7 (p:Int->Bool)(s:Int):Nat->List Int
 | 0=>[]
 | k+1=>Zb7 p s k++(if p (s+(k:Int)) then [s+(k:Int)] else [])
theorem ZfE (p:Int->Bool)(s:Int):∀ k,(Zb7 p s k).length<=k
 | 0=>by simp [Zb7]
 | k+1=>by
  have:=ZfE p s k;simp only [Zb7]
  split <;> simp <;> omega
theorem ZjU (ls:List Lk)(v r:Int):ZdK ls v r=Zb7 (fun u=>decide (0<ZdO ls v u r)) 1 6:=by
 simp [ZdK,Zb7,List.filter_cons]
 repeat' split
 all_goals simp
theorem ZmY (n:Value)(v tv:Value)(ls:List Lk)(f r:Int)(w:World)(hls:ls.length<=1048576)(hv:Zbh w v ls w.heap.size):
  Calls Tryz.prog 27 #[.agg #[n,v,tv],.int .i64 f,.int .i64 r] w fun e w'=>∃ x,e=.returned x/\w'.ownsRow w.heap.size 3 1 x (ZdK ls f r).length (ZbH (ZdK ls f r))/\Below w.heap.size w w':=by
 have HV:=hide hv;clear hv;rw [ZjU]
 go_enter Tryz.func27,Tryz.ntmps27
 go_wp2
 go_loopw [7,8] (fun x i wr=>∃ k:Nat,k<=6/\i=.int .i64 (1+(k:Int))/\Below w.heap.size w wr/\wr.heap[w.heap.size]? = some (.cells #[n,v,tv] 27)/\wr.ownsRow (w.heap.size+1) 3 1 x (Zb7 (fun u=>decide (0<ZdO ls f u r)) 1 k).length (ZbH (Zb7 (fun u=>decide (0<ZdO ls f u r)) 1 k))) (fun _ i _=>8-(intOf i).toNat)
 case atStart=>
  refine⟨0,by omega,rfl,Za6 _ _,?_,?_⟩
  ·rw [Below.heap_alloc _ _ _ (show w.heap.size<(w.alloc (.cells #[n,v,tv] 27)).heap.size by simp),heap_alloc_new]
  ·have h0:=World.ownsRow_lit (base:=w.heap.size+1) (w.alloc (.cells #[n,v,tv] 27)) (#[]:Array Value) 0 (by simp) (by decide) (e:=3) (size:=1) rfl
   simpa [Zb7,ZbH] using h0
 case round=>
  obtain⟨k,hk,rfl,hb,hx,hown⟩:=hrel;have c0:wr.cell? ⟨w.heap.size,0,none⟩=some n:=by rw [Zaa hx];rfl
  have c1:wr.cell? ⟨w.heap.size,1,none⟩=some v:=by rw [Zaa hx];rfl
  have c2:wr.cell? ⟨w.heap.size,2,none⟩=some tv:=by rw [Zaa hx];rfl
  have hxl:=Zab hx;have HX:=hide hx;have OW:=hide hown;clear hx hown;by_cases hlt:k<6
  ·go_wp2_with fail
   refine (ZmV n v tv ls f (1+(k:Int)) r wr hls (HV.out.then hb)).mono ?_
   rintro e w1 ⟨rfl,b1⟩;have hown1:=Zaf OW.out b1 (Nat.le_refl _);have hx1:w1.heap[w.heap.size]? = some (.cells #[n,v,tv] 27):=by rw [b1.block _ hxl];exact HX.out
   have hb1:Below w.heap.size w w1:=hb.trans (b1.mono hb.size);have hz1:=b1.size;have hpl:=ZfE (fun u=>decide (0<ZdO ls f u r)) 1 k
   have HX1:=hide hx1;obtain⟨l2,hl20⟩:∃ l2,l2=Zb7 (fun u=>decide (0<ZdO ls f u r)) 1 (k+1):=⟨_,rfl⟩
   have HL20:=hide hl20;have hps:Hid (l2=Zb7 (fun u=>decide (0<ZdO ls f u r)) 1 k++(if decide (0<ZdO ls f (1+(k:Int)) r) then [1+(k:Int)] else [])):=hl20
   clear hl20;clear b1 hx1 c0 c1 c2 OW HX;generalize Zb7 (fun u=>decide (0<ZdO ls f u r)) 1 k=l at hown1 hpl hps
   generalize ZdO ls f (1+(k:Int)) r=c at hps |-;by_cases hc:0<c
   ·have hl2:l2=l++[1+(k:Int)]:=by rw [hps.out];simp [hc]
    have HL2:=hide hl2;clear hl2 hps
    go_wp2_with (first
     | (at_builtin;refine Zdv _ rfl _ _ 37 rfl (w.heap.size+1) 3 Tryz.underlying37 Tryz.info3 u7 l (1+(k:Int)) rfl (hown1.alloc _) ⟨w1.heap.size,0,none⟩ 1 rfl ?_ (by omega) (by simp;omega) ?_))
    ·rw [add_zero',World.cell?_alloc_at _ _ _ _ rfl];rfl
    intro v' w4 l' hl' hown' hgrow;have hb4:Below w.heap.size w w4:=(hb1.alloc (by omega) _).grown hgrow (by simp;omega) (fun k hk=>by have:=(hown1.lt k hk).1;omega)
    have hx4:w4.heap[w.heap.size]? = some (.cells #[n,v,tv] 27):=by
     rw [hgrow.block _ (by simp;omega) (fun h=>by have:=(hown1.lt _ h.symm).1;omega),Below.heap_alloc _ _ _ (by omega)]
     exact HX1.out
    have e:l'=l2:=by rw [hl'.out,HL2.out]
    subst e;have OW2:=hide hown';have HX4:=hide hx4;clear hgrow hown' hx4 hown1
    go_wp2
    go_roundw
    case rel=>exact ⟨k+1,by omega,by go_num,hb4,HX4.out,by rw [<-HL20.out];exact OW2.out⟩
    case measure=>simp [intOf];omega
   ·have hl2:l2=l:=by rw [hps.out];simp [hc]
    subst hl2;have OW2:=hide hown1;clear hown1 hps
    go_wp2
    go_roundw
    case rel=>exact ⟨k+1,by omega,by go_num,hb1,HX1.out,by rw [<-HL20.out];exact OW2.out⟩
    case measure=>simp [intOf];omega
  ·have hk':k=6:=by omega
   subst hk'
   go_wp2
   go_ret
   exact⟨_,rfl,Zi5 OW.out (by omega),hb⟩
structure Nr where
 to:Int
 c:Int
 deriving DecidableEq
instance:Inhabited Nr:=⟨⟨0,0⟩⟩
def nrV (l:Nr):Value:=.agg #[.int .i64 l.to,.int .i64 l.c]
def nrE (l:Nr):List Value:=[.int .i64 l.to,.int .i64 l.c]
theorem ZjX (l:Nr):(nrE l).length=2:=rfl
def ZaB (W:World)(v:Value)(ls:List Nr)(B:Nat):Prop:=Za5 nrE 2 W v ls B
theorem ZaB.then {W W':World}{v:Value}{ls:List Nr}(h:ZaB W v ls W.heap.size)(hb:Below W.heap.size W W'):ZaB W' v ls W'.heap.size:=ZaR.then h hb
theorem ZaB.shape {W:World}{v:Value}{ls:List Nr}{B:Nat}(h:ZaB W v ls B):∃ a cap,v=.slice a ls.length cap:=by obtain ⟨a,cap,h,_⟩:=h;exact⟨a,cap,h⟩
theorem ZaB.cells {W:World}{v:Value}{ls:List Nr}{B:Nat}(h:ZaB W v ls B)(i:Nat)(l:Nr)(hl:ls[i]? = some l):
  ∃ b off cap,v=.slice (some ⟨b,off,none⟩) ls.length cap/\b<B/\W.cell? ⟨b,off+i*2,none⟩=some (.int .i64 l.to)/\W.cell? ⟨b,off+i*2+1,none⟩=some (.int .i64 l.c):=by
 obtain⟨b,off,cap,hv,hb,hc⟩:=Za5.cell h ZjX i l hl;exact⟨b,off,cap,hv,hb,hc 0 _ rfl,hc 1 _ rfl⟩
def nr0:Nr:=⟨0,0⟩
theorem Tryz.infoNr:(Tryz.prog.info? 62).map (fun i=>(i.zero,i.size,i.bytes))=some (some (nrV nr0),2,16):=by kernel_rfl
structure RecD where
 area:Int
 kind:Int
 owner:Int
 key:Int
 seq:Int
 near:List Nr
 cost:Int
 far:Bool
 deriving DecidableEq
def recC (x:RecD)(v:Value):Array Value:=#[.int .i64 x.area,.int .i64 x.kind,.int .i64 x.owner,.int .i64 x.key,.int .i64 x.seq,v,.int .i64 x.cost,.bool x.far]
def ZoO (W:World)(v:Value)(x:RecD)(B:Nat):Prop:=∃ v1,v=.agg (recC x v1)/\ZaB W v1 x.near B
theorem ZoO.then {W W':World}{v:Value}{x:RecD}(h:ZoO W v x W.heap.size)(hb:Below W.heap.size W W'):ZoO W' v x W'.heap.size:=by
 obtain⟨v1,hv,h1⟩:=h;exact⟨v1,hv,h1.then hb⟩
def mk (q:Int)(i:Nat):Nr:=⟨q+2*(i:Int),q+2*(i:Int)+1⟩
theorem Zj0 {w:World}{base size:Nat}{e:TypeId}{v:Value}{n:Nat}{xs:List Value}(h:w.ownsRow base e size v n xs)(hn:0<n):
  ∃ g cap,v=.slice (some ⟨g,0,none⟩) n cap/\base<=g/\g<w.heap.size:=by
 rcases h.2 with ⟨_,h0⟩ | ⟨g,cap,cur,hv,hb,hg,_⟩
 ·omega
 ·exact ⟨g,cap,hv,hb,Zab hg⟩
theorem ZbZ {w:World}{base size g cap:Nat}{e:TypeId}{n:Nat}{xs:List Value}(h:w.ownsRow base e size (.slice (some ⟨g,0,none⟩) n cap) n xs)(j:Nat)(hj:j<n*size):∃ u,w.cell? ⟨g,j,none⟩=some u:=by
 rw [h.cellAt j hj];have hl:j<xs.length:=by rw [h.1];exact hj
 exact⟨_,List.getElem?_eq_getElem hl⟩
theorem ZcL (w:World)(r:Option Nat):w.grownBy w r:=⟨rfl,rfl,rfl,Nat.le_refl _,fun _ _ _=>rfl⟩
theorem Zgb {a b:Int}(h:a=b):Ending.returned (.int .i64 a)=.returned (.int .i64 b):=by rw [h]
theorem ZaD {α:Type}{enc:α->List Value}(xs ys:List α):flat enc (xs++ys)=flat enc xs++flat enc ys:=by simp [flat]
theorem Za9 {α:Type}{enc:α->List Value}{sz bytes:Nat}(hlen:∀ a,(enc a).length=sz)(hpos:0<sz)(hone:∀ a,∀ u∈enc a,u.oneCell'=true)(hbb:bytes<=100){P:Program}(w:World){ops:Array Oper}{rest:List Oper}{o:Oper}{a:Act}{Q:Exit->Act->World->Prop}(hgd:o.guard=none)(s x:Operand)(t:TypeId)
  (ho:o.op=.call { callee:=.builtin .append,args:=#[s,x],argTypes:=#[t,t] }) (base:Nat) (e:TypeId) (ht:P.underlying t=some (.slice e)) (zv:Value) (hzv:zv.cells.size=sz)
  (hinfo:(P.info? e).map (fun i=>(i.zero,i.size,i.bytes))=some (some zv,sz,bytes))
  (v:Value) (l:List α) (y:α) (hs:a.eval s=v) (hown:w.ownsRow base e sz v l.length (flat enc l))
  (ad:Addr) (c:Nat) (hx:a.eval x=.slice (some ad) 1 c) (hnews:∀ j u,(enc y)[j]? = some u->w.cell? (ad.add j)=some u)
  (hl:l.length+1<=1000000000) (hbase:base<=w.heap.size)
  (h:∀ v' w' l',Hid (l'=l++[y])->w'.ownsRow base e sz v' l'.length (flat enc l')->w.grownBy w' v.ownBlock->wpList P ops Q rest (a.put o.dst v') w'):wpList P ops Q (o::rest) a w:=by
 obtain⟨i0,hi,hz0,hz1,hz2⟩:=info_parts hinfo;refine wpList_append_own w hgd s x t ho base e i0 zv sz bytes ht hi hz0 hz1 hz2 hzv hpos v l.length (flat enc l) hs hown ad 1 c (enc y) hx (by rw [hlen];omega) hnews (hone y) (by unfold maxLen;omega) ?_ hbase ?_
 ·have:(l.length+1)*bytes<=1000000000*100:=Nat.mul_le_mul hl hbb
  omega
 ·intro v' w' h1 h2 _
  have e1:flat enc l++enc y=flat enc (l++[y]):=by rw [ZaD];simp [flat]
  rw [e1] at h1;exact h v' w' (l++[y]) rfl (by simpa using h1) h2
theorem Zap {w:World}{cs:List Value}{t:TypeId}:∀ (j:Nat) (u:Value),cs[j]? = some u->(w.alloc (.cells cs.toArray t)).cell? ((⟨w.heap.size,0,none⟩:Addr).add j)=some u:=by
 intro j u hj;have e:(⟨w.heap.size,0,none⟩:Addr).add j=⟨w.heap.size,j,none⟩:=by
  simp only [Addr.add]
  split <;> simp_all
 rw [e,World.cell?_alloc_at _ _ _ _ rfl]
 simpa using hj
end Go.Proofs.YtgdgkgmjpnbbcaaGreat
