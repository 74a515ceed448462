/-
  Parts.
-/
import Derived.Test.YtikloccefmofdaaGreatFi1
import Derived.Shelf.SlSortCmp.WholeK
import Derived.Deep.OwnRows
import Derived.Lib.OwnBridge
import Derived.Sort.OwnSortedInts
namespace Go.Proofs.YtikloccefmofdaaGreat
open Go.RowKit

def flat {α:Type}(enc:α->List Value)(xs:List α):List Value:=xs.flatMap enc

section
variable {α:Type} {enc:α->List Value} {sz:Nat}

theorem ZbJ (x:α)(xs:List α):flat enc (x::xs)=enc x++flat enc xs:=rfl

theorem ZaD (h:∀ a,(enc a).length=sz)(xs:List α):(flat enc xs).length=xs.length*sz:=by
 induction xs with
 | nil=>simp [flat]
 | cons x xs ih=>rw [ZbJ,YAN,h,ih,YAk,Nat.add_mul,Nat.one_mul,Nat.add_comm]

theorem Zeq (h:∀ a,(enc a).length=sz):∀ (xs:List α) (i r:Nat) (x:α),xs[i]? = some x->r<sz->(flat enc xs)[i*sz+r]? = (enc x)[r]?
 | [],i,r,x,hx,_=>by simp at hx
 | y::ys,0,r,x,hx,hr=>by
  simp at hx;subst hx;rw [ZbJ,Nat.zero_mul,Nat.zero_add,List.getElem?_append_left (by rw [h];exact hr)]
 | y::ys,i+1,r,x,hx,hr=>by
  have e:(i+1)*sz+r=sz+(i*sz+r):=by rw [Nat.add_mul,Nat.one_mul];omega
  rw [ZbJ,List.getElem?_append_right (by rw [h,e];omega),h,e,Nat.add_sub_cancel_left];exact Zeq h ys i r x (by simpa using hx) hr

def setL:List Value->Nat->List Value->List Value
 | xs,_,[]=>xs
 | xs,off,v::vs=>setL (xs.set off v) (off+1) vs

theorem Zfh (a b:List Value):∀ (off:Nat) (vs:List Value),setL (a++b) (a.length+off) vs=a++setL b off vs
 | _,[]=>rfl
 | off,v::vs=>by
  unfold setL;rw [List.set_append_right _ _ (by omega),Nat.add_sub_cancel_left];exact Zfh a (b.set off v) (off+1) vs

theorem Zkz:∀ (vs b c:List Value),b.length=vs.length->setL (b++c) 0 vs=vs++c
 | [],b,c,h=>by
  have:b=[]:=List.length_eq_zero_iff.1 (by simpa using h);subst this;rfl
 | v::vs,[],c,h=>by simp at h
 | v::vs,x::b,c,h=>by
  have h2:setL ([v]++(b++c)) ([v].length+0) vs=[v]++setL (b++c) 0 vs:=Zfh [v] (b++c) 0 vs;unfold setL;simp only [List.cons_append,YAs];simp only [List.cons_append,List.nil_append,YAk,List.length_nil,Nat.add_zero] at h2;rw [Nat.zero_add,h2,Zkz vs b c (by simpa using h)]

theorem Zi4 (h:∀ a,(enc a).length=sz):∀ (xs:List α) (k:Nat) (x:α),k<xs.length->setL (flat enc xs) (k*sz) (enc x)=flat enc (xs.set k x)
 | [],k,x,hk=>by simp at hk
 | y::ys,0,x,_=>by
  rw [Nat.zero_mul,ZbJ,Zkz _ _ _ (by rw [h,h]),YAs,ZbJ]
 | y::ys,k+1,x,hk=>by
  have e:(k+1)*sz=(enc y).length+k*sz:=by rw [h,Nat.add_mul,Nat.one_mul,Nat.add_comm]
  rw [ZbJ,e,Zfh,Zi4 h ys k x (by simpa using hk),YAu,ZbJ]
end

def Zav (W:World)(v:Value)(n sz:Nat)(f:Nat->Value)(B:Nat):Prop:=
 ∃ a cap,v=.slice a n cap/\(n=0\/∃ b off,a=some ⟨b,off,none⟩/\b<B/\∀ j,j<n*sz->W.cell? ⟨b,off+j,none⟩=some (f j))

theorem Zav.later {W W':World}{v:Value}{n sz:Nat}{f:Nat->Value}{B C:Nat}(h:Zav W v n sz f B)(hb:Below C W W')(hBC:B<=C):Zav W' v n sz f B:=by
 obtain⟨a,cap,hv,h2⟩:=h;refine⟨a,cap,hv,?_⟩;rcases h2 with h0 | ⟨b,off,ha,hb1,hx⟩
 ·exact .inl h0
 ·exact .inr ⟨b,off,ha,hb1,fun j hj=>by rw [hb.cell (p:=⟨b,off+j,none⟩) (by show b<C;omega)];exact hx j hj⟩

theorem Zav.more {W:World}{v:Value}{n sz:Nat}{f:Nat->Value}{B C:Nat}(h:Zav W v n sz f B)(hBC:B<=C):Zav W v n sz f C:=by
 obtain⟨a,cap,hv,h2⟩:=h;refine⟨a,cap,hv,?_⟩;rcases h2 with h0 | ⟨b,off,ha,hb1,hx⟩
 ·exact .inl h0
 ·exact .inr ⟨b,off,ha,by omega,hx⟩

theorem Zav.then {W W':World}{v:Value}{n sz:Nat}{f:Nat->Value}(h:Zav W v n sz f W.heap.size)(hb:Below W.heap.size W W'):Zav W' v n sz f W'.heap.size:=(h.later hb (YA _)).more hb.size

def ZaU {α:Type}(enc:α->List Value)(sz:Nat)(W:World)(v:Value)(xs:List α)(B:Nat):Prop:=Zav W v xs.length sz (fun j=>(flat enc xs).getD j undef) B

section
variable {α:Type} {enc:α->List Value} {sz:Nat}

theorem ZaU.cell {W:World}{v:Value}{xs:List α}{B:Nat}(h:ZaU enc sz W v xs B)(hs:∀ a,(enc a).length=sz)(i:Nat)(x:α)(hx:xs[i]? = some x):
  ∃ b off cap,v=.slice (some ⟨b,off,none⟩) xs.length cap/\b<B/\∀ r u,(enc x)[r]? = some u->W.cell? ⟨b,off+i*sz+r,none⟩=some u:=by
 have hi:i<xs.length:=(YAD.1 hx).1;obtain⟨a,cap,hv,h2⟩:=h;rcases h2 with h0 | ⟨b,off,ha,hb,hc⟩
 ·omega
 ·refine ⟨b,off,cap,by rw [hv,ha],hb,fun r u hu=>?_⟩;have hr:r<sz:=by have:=(YAD.1 hu).1;rw [hs] at this;exact this
  have hg:=Zeq hs xs i r x hx hr;have hlt:i*sz+r<xs.length*sz:=by
   have:(i+1)*sz<=xs.length*sz:=Nat.mul_le_mul_right _ hi;rw [Nat.add_mul,Nat.one_mul] at this;omega
  rw [Nat.add_assoc,hc _ hlt];simp only [List.getD_eq_getElem?_getD,hg,hu];rfl

theorem Zam {W:World}{base:Nat}{e:TypeId}{v:Value}{xs:List α}(h:W.ownsRow base e sz v xs.length (flat enc xs)):ZaU enc sz W v xs W.heap.size:=by
 rcases h.2 with ⟨hv,h0⟩ | ⟨g,cap,cur,hv,hg,hh,hnc,hcm,hcs,htk⟩
 ·exact ⟨none,0,by rw [hv,h0],.inl h0⟩
 ·have hlt:g<W.heap.size:=by
   rcases Nat.lt_or_ge g W.heap.size with hl | hl
   ·exact hl
   ·rw [Array.getElem?_eq_none hl] at hh;cases hh
  refine⟨_,cap,hv,.inr ⟨g,0,rfl,hlt,fun j hj=>?_⟩⟩;rw [Nat.zero_add];simp only [World.cell?,hh];have hj2:j<cur.size:=by
   have:xs.length*sz<=cap*sz:=Nat.mul_le_mul_right _ hnc;omega
  have e1:(flat enc xs)[j]? = cur.toList[j]? := by rw [<-htk,YAn hj]
  simp [List.getD,e1,hj2]
end
end Go.Proofs.YtikloccefmofdaaGreat
namespace Go.Proofs.YtikloccefmofdaaGreat
open Go.RowKit
set_option linter.unusedSimpArgs false
set_option linter.unusedVariables false
set_option maxRecDepth 100000
set_option maxHeartbeats 8000000
variable {a b:Int}{cap i len n p:Nat}{f:Nat->Value}{W w:World}
theorem Za5 (x a b:Int)(w:World):Calls Tryz.prog 29 #[.int .i64 x,.int .i64 a,.int .i64 b] w fun e w'=>e=.returned (.bool (inB x a b))/\w=w':=by
 by_cases h1:a<=x <;> by_cases h2:x<=b
 all_goals
  go_enter Tryz.func29,Tryz.ntmps29
  go_wp2;go_ret;exact⟨by simp [inB,h1,h2],rfl⟩
def cmpN (a b:Int):Int:=if a<b then -1 else if b<a then 1 else 0
theorem Zba :cmpN a b=0↔a=b:=by unfold cmpN;split <;> (try split) <;> omega
theorem ZdO :cmpN a b<0↔a<b:=by unfold cmpN;split <;> (try split) <;> omega
theorem Zkx (h:b=a):Ending.returned (.int .i64 a)=.returned (.int .i64 b):=by rw [h]
theorem Zkh (a:Int)(w:World):Calls Tryz.prog 134 #[.int .i64 a] w fun e w'=>e=.returned (.bool false)/\w=w':=by
 go_enter Tryz.func134,Tryz.ntmps134
 go_wp2;go_ret;exact⟨by simp,rfl⟩
theorem Zbi (a b:Int)(w:World):Calls Tryz.prog 105 #[.int .i64 a,.int .i64 b] w fun e w'=>e=.returned (.int .i64 (cmpN a b))/\w=w':=by
 go_enter Tryz.func105,Tryz.ntmps105
 go_wp2_with fail
 refine (Zkh a _).mono ?_;rintro e w1 ⟨rfl,rfl⟩
 go_wp2_with fail
 refine (Zkh b _).mono ?_;rintro e w1 ⟨rfl,rfl⟩;go_wp2
 all_goals go_ret
 all_goals refine ⟨Zkx ?_,rfl⟩
 all_goals (unfold cmpN;grind)
def Zbb (l:List Int):List Value:=l.map fun z=>Value.int .i64 z
theorem Zjc (a b:List Int):Zbb (a++b)=Zbb a++Zbb b:=by simp [Zbb]
theorem Tryz.info3 :(Tryz.prog.info? 3).map (fun i=>(i.zero,i.size,i.bytes))=some (some (.int .i64 0),1,8):=by kernel_rfl
theorem Zbp {P:Program}(w:World){ops:Array Oper}{rest:List Oper}{o:Oper}{a:Act}{Q:Exit->Act->World->Prop}(hgd:o.guard=none)(s x:Operand)(t:TypeId)
  (ho:o.op=.call { callee:=.builtin .append,args:=#[s,x],argTypes:=#[t,t] }) (base:Nat) (e:TypeId) (ht:P.underlying t=some (.slice e))
  (hinfo:(P.info? e).map (fun i=>(i.zero,i.size,i.bytes))=some (some (.int .i64 0),1,8))
  (v:Value) (l:List Int) (z:Int) (hs:a.eval s=v) (hown:w.ownsRow base e 1 v l.length (Zbb l))
  (ad:Addr) (c:Nat) (hx:a.eval x=.slice (some ad) 1 c) (hnews:w.cell? (ad.add 0)=some (.int .i64 z))
  (hlen:l.length+1<=1000000000) (hbase:base<=w.heap.size)
  (h:∀ v' w' l',Hid (l'=l++[z])->w'.ownsRow base e 1 v' l'.length (Zbb l')->w.grownBy w' v.ownBlock->wpList P ops Q rest (a.put o.dst v') w'):wpList P ops Q (o::rest) a w:=by
 obtain⟨i0,hi,hz0,hz1,hz2⟩:=info_parts hinfo;refine wpList_append_own w hgd s x t ho base e i0 (.int .i64 0) 1 8 ht hi hz0 hz1 hz2 rfl (by decide) v l.length (Zbb l) hs hown ad 1 c (Zbb [z]) hx (by simp [Zbb]) ?_ ?_ (by unfold maxLen;omega) (by omega) hbase ?_
 ·intro j u hj;have hj':j=0:=by have:=(YAD.1 hj).1;simp [Zbb] at this;omega
  subst hj';rw [hnews];simpa [Zbb] using hj
 ·intro u hu;simp only [Zbb,YAR] at hu;obtain⟨b,_,rfl⟩:=hu;rfl
 ·intro v' w' h1 h2 _;rw [<-Zjc] at h1;exact h v' w' (l++[z]) rfl (by simpa using h1) h2
theorem Zqj {W':World}(hb:Below W.heap.size W W')(hd:W.drawn<=W'.drawn):∃ q os',W'=Go.Sort.grow (W.drewN q) os':=by
 refine⟨W'.drawn-W.drawn,W'.heap.extract W.heap.size W'.heap.size,?_⟩;have hh:W'.heap=W.heap++W'.heap.extract W.heap.size W'.heap.size:=by
  apply Array.ext_getElem?;intro i;by_cases hi:i<W.heap.size
  ·rw [Array.getElem?_append_left hi];exact hb.block i hi
  ·rw [Array.getElem?_append_right (by omega),Array.getElem?_extract];have:=hb.size;by_cases h2:i<W'.heap.size
   ·rw [if_pos (by omega)];congr 1;omega
   ·rw [if_neg (by omega),Array.getElem?_eq_none (by omega)]
 obtain⟨h1,h2,h3,h4,h5⟩:=W';have e1:=hb.os;have e2:=hb.tape;have e3:=hb.output;simp only at e1 e2 e3 hh hd;subst e1 e2 e3;unfold Go.Sort.grow;simp only [World.drewN];congr 1;omega
theorem Znv {g sz base:Nat}{e:TypeId}{cur:Array Value}{xs:List Value}(hg:W.heap[g]? = some (.cells cur e (0,0)))(hb:base<=g)(hn:n<=cap)(hm:cap<=maxLen)(hs:cur.size=cap*sz)(hx:xs.length=n*sz)(hc:∀ j,j<n*sz->W.cell? ⟨g,j,none⟩=xs[j]?):W.ownsRow base e sz (.slice (some ⟨g,0,none⟩) n cap) n xs:=by
 refine⟨hx,.inr ⟨g,cap,cur,rfl,hb,hg,hn,hm,hs,?_⟩⟩;apply List.ext_getElem?;intro j;rw [List.getElem?_take];by_cases hj:j<n*sz
 ·rw [if_pos hj,Array.getElem?_toList, <-hc j hj];simp [World.cell?,hg]
 ·rw [if_neg hj,List.getElem?_eq_none (by omega)]
theorem ZhA {α:Type} [Inhabited α]{enc:α->List Value}{k:Nat}{w:World}{g m:Nat}{dk:Array α}{os:Array Obj}{cur:Array Value}{e:TypeId}(hg:w.heap[g]? = some (.cells cur e (0,0))):∃ cur',(Go.Proofs.sortWorldK enc k w g 0 m dk os).heap[g]? = some (.cells cur' e (0,0))/\cur'.size=cur.size:=by
 have hl:=Zab hg;refine⟨Go.Sort.putCells id 0 (Go.Sort.flatK enc k dk) cur,?_,by simp [Go.Sort.putCells]⟩;unfold Go.Proofs.sortWorldK Go.Sort.grow Go.Sort.putRowK;rw [Array.getElem?_append_left (by simpa [Go.Sort.putRow,Go.Sort.mapBlock,Go.Sort.ahead] using hl)];simp [Go.Sort.putRow,Go.Sort.mapBlock,Go.Sort.ahead,Array.getElem?_modify,hg,Go.Sort.onCells]
theorem ZhB {α:Type} [Inhabited α]{enc:α->List Value}{k:Nat}{w:World}{g m:Nat}{dk:Array α}{os:Array Obj}:w.grownBy (Go.Proofs.sortWorldK enc k w g 0 m dk os) (some g):=by
 refine⟨rfl,rfl,rfl,by unfold Go.Proofs.sortWorldK Go.Sort.grow Go.Sort.putRowK;simp [Go.Sort.putRow,Go.Sort.mapBlock,Go.Sort.ahead],fun j hj hne=>?_⟩;have hne':g≠j:=fun e=>hne (by rw [e]);unfold Go.Proofs.sortWorldK Go.Sort.grow Go.Sort.putRowK;rw [Array.getElem?_append_left (by simpa [Go.Sort.putRow,Go.Sort.mapBlock,Go.Sort.ahead] using hj)];simp [Go.Sort.putRow,Go.Sort.mapBlock,Go.Sort.ahead,Array.getElem?_modify,hne']
def Code (w:World)(a:Option Addr)(len p:Nat):Prop:=
 len<=1048576/\(len=0\/∃ b off,a=some ⟨b,off,none⟩/\b<p/\∀ i,i<len->∃ x:Nat,x<256/\w.cell? ⟨b,off+i,none⟩=some (.int .u8 (x:Int)))
def Cur (w:World)(p:Nat)(a:Option Addr)(len cap:Nat):Prop:=
 (∃ (i:Nat) (h:Int),i<=len/\w.heap[p]? = some (.cells #[.slice a len cap,.int .i64 (i:Int),.int .i64 h] 74 (0,0)))/\Code w a len p
theorem Zrw (n:Int):0<=bits .and .i64 n 255/\bits .and .i64 n 255<=255:=by
 have key:(BitVec.ofInt 64 n &&& BitVec.ofInt 64 255).toNat<=255:=by
  rw [BitVec.toNat_and];exact YAK Nat.and_le_right (by decide)
 have e:bits .and .i64 n 255=IntKind.i64.wrap ((BitVec.ofInt 64 n &&& BitVec.ofInt 64 255).toNat:Nat):=rfl;rw [e,IntKind.wrap_i64];omega
theorem Code.grown {w':World}{a:Option Addr}{row:Option Nat}(h:Code w a len p)(hg:w.grownBy w' row)(hr:∀ b,b<p->some b≠row):Code w' a len p:=by
 refine⟨h.1,?_⟩;rcases h.2 with h0 | ⟨b,off,ha,hb,hx⟩
 ·exact .inl h0
 ·refine .inr ⟨b,off,ha,hb,fun i hi=>?_⟩;obtain⟨x,h1,h2⟩:=hx i hi;exact⟨x,h1,hg.cell h2 (hr b hb)⟩
theorem Cur.grown {w':World}{a:Option Addr}{row:Option Nat}(h:Cur w p a len cap)(hg:w.grownBy w' row)(hr:∀ b,b<=p->some b≠row):Cur w' p a len cap:=by
 obtain⟨⟨i,hh,hi,e⟩,hc⟩:=h;refine⟨⟨i,hh,hi,?_⟩,hc.grown hg (fun b hb=>hr b (by omega))⟩;have hlt:p<w.heap.size:=by
  rcases Nat.lt_or_ge p w.heap.size with hl | hl
  ·exact hl
  ·rw [Array.getElem?_eq_none hl] at e;cases e
 rw [hg.block p hlt (hr p (YA _))];exact e
theorem Cur.end {W2:World}{a:Option Addr}(hc:Code w a len p)(hg:w.grownBy W2 (some p))(i:Nat)(h:Int)(hi:i<=len)
  (hh:W2.heap[p]? = some (.cells #[.slice a len cap,.int .i64 (i:Int),.int .i64 h] 74 (0,0))):Cur W2 p a len cap/\w.grownBy W2 (some p):=
 ⟨⟨⟨i,h,hi,hh⟩,hc.grown hg (fun b hb=>by simp;omega)⟩,hg⟩
theorem Zfp (p:Nat)(a:Option Addr)(len cap:Nat)(w:World)(hc:Cur w p a len cap):
  Calls Tryz.prog 71 #[.pointer (some ⟨p,0,none⟩)] w fun e w'=>∃ x:Int,e=.returned (.int .i64 x)/\0<=x/\x<=255/\Cur w' p a len cap/\w.grownBy w' (some p):=by
 obtain⟨⟨i,h,hi,hh⟩,hlen,hcode⟩:=hc;have c0:=Zaa hh 0;have c1:=Zaa hh 1;have c2:=Zaa hh 2;have f1:=Zae hh 1;have f2:=Zae hh 2;simp at c0 c1 c2;have HH:=hide hh;have HC:=hide hcode;clear hh hcode
 go_enter Tryz.func71,Tryz.ntmps71
 go_wp2;generalize wrap64 (wrap64 (h*6364136223846793005)+1442695040888963407)=h2;have hh2:(w.setCell ⟨p,2,none⟩ (.int .i64 h2)).heap[p]? = some (.cells #[.slice a len cap,.int .i64 (i:Int),.int .i64 h2] 74 (0,0)):=by
  rw [YAU w p 2 _ _ _ HH.out];rfl
 have hg1:w.grownBy (w.setCell ⟨p,2,none⟩ (.int .i64 h2)) (some p):=⟨rfl,rfl,rfl,by simp,fun k _ hk=>YAO w ⟨p,2,none⟩ k _ (fun e=>hk (by simp [e]))⟩;generalize w.setCell ⟨p,2,none⟩ (.int .i64 h2)=W1 at hh2 hg1 |-;have d0:=Zaa hh2 0;have d1:=Zaa hh2 1;have d2:=Zaa hh2 2;have e1:=Zae hh2 1;simp at d0 d1 d2;have HH2:=hide hh2;clear hh2 c0 c1 c2 f1 f2;have hbx:=Zrw (bits .xor .i64 (h2 / 8589934592) (h2 / 35184372088832));by_cases hil:i<len
 ·have hil2:(i:Int)<(len:Int):=by omega
  have hcell:∃ b off,a=some ⟨b,off,none⟩/\b≠p/\∃ x:Nat,x<256/\W1.cell? ⟨b,off+i,none⟩=some (.int .u8 (x:Int)):=by
   rcases HC.out with h0 | ⟨b,off,ha,hb,hx⟩
   ·omega
   ·obtain ⟨x,hx1,hx2⟩:=hx i hil;exact⟨b,off,ha,by omega,x,hx1,hg1.cell hx2 (by simp;omega)⟩
  obtain⟨b,off,ha,hbp,x,hx,d3⟩:=hcell;subst ha
  go_quiet (fail)
  go_wp2;generalize bits .and .i64 (bits .xor .i64 (h2 / 8589934592) (h2 / 35184372088832)) 255=x0 at hbx |-;obtain⟨hb0,hb1⟩:=hbx
  go_quiet (fail)
  go_wp2
  go_quiet (fail)
  go_wp2;go_ret;have hbz:=Zrw (x0+(x:Int));exact⟨_,rfl,hbz.1,hbz.2,Cur.end ⟨hlen,HC.out⟩ (Zai hg1 (Zai (Ze0 W1 _ _) (Zaw _ p 1 _))) (i+1) h2 (by omega) (YAU (W1.drewN _) p 1 _ _ _ HH2.out)⟩
 ·have hil2:¬(i:Int)<(len:Int):=by omega
  go_quiet (fail)
  go_wp2;generalize bits .and .i64 (bits .xor .i64 (h2 / 8589934592) (h2 / 35184372088832)) 255=x0 at hbx |-;obtain⟨hb0,hb1⟩:=hbx
  go_quiet (fail)
  go_wp2;go_ret;exact⟨_,rfl,hb0,hb1,Cur.end ⟨hlen,HC.out⟩ (Zai hg1 (Zai (Ze0 W1 _ _) (Ze0 _ _ _))) i h2 hi HH2.out⟩
theorem ZaB (o1 o2:Obj):Below w.heap.size w ((w.alloc o1).alloc o2):=((YAC _ _).alloc (YA _) _).alloc (by simp) _
theorem ZeU (o1 o2 o3:Obj):Below w.heap.size w (((w.alloc o1).alloc o2).alloc o3):=(ZaB o1 o2).alloc (by simp;omega) _
def part {α:Type}(xs:List α)(z:α)(k:Nat):List α:=xs.take k++List.replicate (xs.length-k) z
theorem eq_all {α:Type}{xs ys:List α}(hl:xs.length=ys.length)(h:∀ j,j<xs.length->xs[j]? = ys[j]?):xs=ys:=by
 apply List.ext_getElem?;intro i;by_cases hi:i<xs.length
 ·exact h i hi
 ·rw [List.getElem?_eq_none (by omega),List.getElem?_eq_none (by omega)]
theorem Zos (w:World)(a b c:Obj):(((w.alloc a).alloc b).alloc c).heap[w.heap.size]? = some a:=by
 rw [YAH _ _ _ (by simp;omega),YAH _ _ _ (by simp),YAE]
theorem Zot (w:World)(a b c:Obj):(((w.alloc a).alloc b).alloc c).heap[w.heap.size+1]? = some b:=by
 rw [YAH _ _ _ (by simp)];have:=YAE (w.alloc a) b;simpa using this
theorem Zou (w:World)(a b c:Obj):(((w.alloc a).alloc b).alloc c).heap[w.heap.size+1+1]? = some c:=by
 have:=YAE ((w.alloc a).alloc b) c;simpa using this
theorem Zah {a b:Bool}(h:b=a):Ending.returned (.bool a)=.returned (.bool b):=by rw [h]
def rowA (f:Nat->Value)(n:Nat):Array Value:=((List.range n).map f).toArray
theorem Zsd (h:i<n):(rowA f n)[i]? = some (f i):=by
 simp [rowA,h]
theorem Zq6 (f:Nat->Value)(n i:Nat)(x:Value):(rowA f n).setIfInBounds i x=rowA (fun j=>if j=i then x else f j) n:=by
 apply Array.ext
 ·simp [rowA]
 ·intro j h1 h2;have hj:j<n:=by simpa [rowA] using h2
  simp [rowA];by_cases e:i=j
  ·subst e;simp
  ·have e':¬j=i:=fun h=>e h.symm;simp [e,e']
theorem ZdH {g:Nat->Value}(h:∀ i,i<n->f i=g i):rowA f n=rowA g n:=by
 unfold rowA;congr 1;apply List.map_congr_left;intro i hi;exact h i (List.mem_range.1 hi)
theorem ZfV {b:Nat}{t:TypeId}(h:W.heap[b]? = some (.cells (rowA f n) t))(hi:i<n):W.cell? ⟨b,i,none⟩=some (f i):=by
 have e:=Zaa h i;rw [Zsd hi] at e;exact e
theorem ZgP {b:Nat}{t:TypeId}(h:W.heap[b]? = some (.cells (rowA f n) t))(x:Value):(W.setCell ⟨b,i,none⟩ x).heap[b]? = some (.cells (rowA (fun j=>if j=i then x else f j) n) t):=by
 have e:=YAU W b i _ _ x h;rw [Zq6] at e;exact e
theorem Zps (z:Value)(n:Nat):madeCells #[z] n=rowA (fun _=>z) n:=by
 apply Array.ext
 ·simp [rowA,madeCells]
 ·intro j h1 h2;simp [rowA,madeCells,Nat.mod_one]
theorem Zb8 {P:Program}(w:World){ops:Array Oper}{rest:List Oper}{o:Oper}{a:Act}{Q:Exit->Act->World->Prop}
  (hg:o.guard=none) (l c:Operand) (t:TypeId) (hop:o.op=Op.makeSlice t l c)
  (e:TypeId) (z:Value) (bytes:Nat) (ht:P.underlying t=some (.slice e)) (hinfo:(P.info? e).map (fun i=>(i.zero,i.size,i.bytes))=some (some z,1,bytes)) (hz1:z.cells=#[z])
  (n:Nat) (hl:a.eval l=.int .i64 (n:Int)) (hc:a.eval c=.int .i64 (n:Int)) (hbytes:bytes*n<=281474976710656) (h63:n<=9223372036854775807)
  (hK:wpList P ops Q rest (a.put o.dst (.slice (some ⟨w.heap.size,0,none⟩) n n)) (w.alloc (.cells (rowA (fun _=>z) n) e))):
  wpList P ops Q (o::rest) a w:=by
 obtain⟨i,hi,hzz⟩:=Option.map_eq_some_iff.1 hinfo;simp only [Prod.mk.injEq] at hzz;obtain⟨hz,hs,hb⟩:=hzz;refine wpList_make_row w hg l c t hop e i z ht hi hz hs hz1 .i64 .i64 n hl hc (by rw [hb];exact hbytes) h63 ?_;rw [Zps];exact hK
end Go.Proofs.YtikloccefmofdaaGreat
namespace Go.Proofs.YtikloccefmofdaaGreat
open Go.RowKit

open Go.Sort Go.Lib in
theorem Zrf (base:Nat)(u:Value)(zs:List Int)(w:World)(hown:w.ownsRow base 3 1 u zs.length (Zbb zs))(hz:zs.length<=1000000000):
  Calls Tryz.prog 156 #[u] w fun e w'=>e=.returned (.tuple #[])/\w'.ownsRow base 3 1 u (zs.mergeSort fun x y=>decide (x<=y)).length (Zbb (zs.mergeSort fun x y=>decide (x<=y)))/\(∀ B w0,B<=base->Below B w0 w->Below B w0 w'):=by
 by_cases h0:zs=[]
 ·subst h0;obtain⟨a,cap,rfl⟩:=ZcD hown;refine (Tryz.slices_Sort_int_none a cap w).mono ?_;rintro e w' ⟨rfl,rfl⟩;exact⟨rfl,by simpa using hown,fun _ _ _ h=>h⟩
 ·have hne:0<zs.length:=List.length_pos_iff.2 h0;obtain⟨g,cap,hv,hg,hlt,hnc,hcm,_,hH⟩:=holds_of_ownsRow (enc:=Value.int .i64) hown (fun e=>by
   obtain⟨g,cp,e2,_⟩:=ZeB hown hne;rw [e2] at e;cases e)
  subst hv;have hh:=hown.2;rcases hh with ⟨e0,_⟩ | ⟨g',cap',cur,e0,_,hc,_,_,hs,_⟩
  ·cases e0
  ·cases e0;refine (Tryz.slices_Sort_int g 0 cap zs w hH hlt (by omega)).mono ?_;rintro e w' ⟨rfl,n,os,rfl⟩;have hl:(zs.mergeSort fun x y=>decide (x<=y)).length=zs.length:=List.length_mergeSort _;refine⟨rfl,?_,fun B w0 hB h=>h.grown (grownBy_sortedI _) (by omega) (fun k hk=>by simp at hk;omega)⟩;rw [hl];exact ownsRow_sortedI hl hg hc hnc hcm hs

open Go.Sort Go.Lib in
theorem Zk1 (base:Nat)(u:Value)(zs:List Int)(w:World)(hown:w.ownsRow base 3 1 u zs.length (Zbb zs))(hz:zs.length<=1000000000):
  Calls Tryz.prog 157 #[u] w fun e w'=>∃ x,e=.returned x/\w'.ownsRow base 3 1 x (Lib.compact zs).length (Zbb (Lib.compact zs))/\(∀ B w0,B<=base->Below B w0 w->Below B w0 w'):=by
 by_cases h0:zs=[]
 ·subst h0;obtain⟨a,cap,rfl⟩:=ZcD hown;refine (Tryz.slices_Compact_int_empty a cap w).mono ?_;rintro e w' ⟨rfl,rfl⟩;exact⟨_,rfl,by simpa [Lib.compact,Lib.compactUpTo] using hown,fun _ _ _ h=>h⟩
 ·have hne:0<zs.length:=List.length_pos_iff.2 h0;obtain⟨g,cap,hv,hg,hlt,hnc,hcm,_,hH⟩:=holds_of_ownsRow (enc:=Value.int .i64) hown (fun e=>by
   obtain⟨g,cp,e2,_⟩:=ZeB hown hne;rw [e2] at e;cases e)
  subst hv;refine (Tryz.slices_Compact_int g 0 cap zs w hH (by omega) hnc).mono ?_;rintro e w' ⟨rfl,q,rfl⟩;have hle:=Lib.compact_length_le zs;have ho:=ownsRow_putRow (q:=q) (k:=(Lib.compact zs).length) (ys:=Lib.compact zs++List.replicate (zs.length-(Lib.compact zs).length) 0) hown (by simp;omega) hle;rw [List.take_append_of_le_length (YA _),YAh] at ho;exact⟨_,rfl,ho,fun B w0 hB h=>below_putRow h (by omega)⟩

theorem ZjD (d:Array Int):∀ (m j:Nat),j<m->d[j]! ∈ Lib.compactUpTo d m
 | 0,j,h=>by omega
 | m+1,j,h=>by
  rw [Lib.compactUpTo_succ];by_cases hj:j<m
  ·exact List.mem_append_left _ (ZjD d m j hj)
  ·obtain rfl:j=m:=by omega
   by_cases hk:Lib.keeps d j=true
   ·rw [if_pos hk];simp
   ·have hk2:¬(j=0\/d[j]! ≠ d[j-1]!):=by simpa [Lib.keeps] using hk
    have h0:0<j:=by omega
    have he:d[j]! = d[j-1]! := by
     by_cases e:d[j]! = d[j-1]!
     ·exact e
     ·exact absurd (Or.inr e) hk2
    rw [he];exact List.mem_append_left _ (ZjD d j (j-1) (by omega))

theorem Zlt {zs:List Int}{x:Int}:x∈Lib.compact zs↔x∈zs:=by
 constructor
 ·intro h;simp only [Lib.compact,Lib.compactUpTo,YAR,YAP,List.mem_range] at h;obtain⟨j,⟨hj,_⟩,rfl⟩:=h;have:zs.toArray[j]! = zs[j]:=by simp [hj]
  rw [this];exact YAt hj
 ·intro h;obtain⟨j,hj,rfl⟩:=List.mem_iff_getElem.1 h;have e:zs[j]=zs.toArray[j]! := by simp [hj]
  rw [e];exact ZjD _ _ j hj

theorem ZmP (d:Array Int)(n:Nat)(hs:∀ i j,i<=j->j<n->d[i]! <= d[j]!):∀ m,m<=n->(Lib.compactUpTo d m).Pairwise (· < ·)
 | 0,_=>by simp [Lib.compactUpTo]
 | m+1,h=>by
  rw [Lib.compactUpTo_succ,YAM];refine⟨ZmP d n hs m (by omega),by split <;> simp,fun x hx y hy=>?_⟩;simp only [Lib.compactUpTo,YAR,YAP,List.mem_range] at hx;obtain⟨j,⟨hj,_⟩,rfl⟩:=hx
  split at hy
  ·rename_i hk
   have e:y=d[m]! := by simpa using hy
   subst e;have hk2:m=0\/d[m]! ≠ d[m-1]! := by simpa [Lib.keeps] using hk
   have h1:=hs j (m-1) (by omega) (by omega);have h2:=hs (m-1) m (by omega) (by omega);rcases hk2 with h3 | h3
   ·omega
   ·omega
  ·cases hy

theorem ZnJ {zs:List Int}(hp:zs.Pairwise (fun a b=>decide (a<=b)=true)):∀ i j,i<=j->j<zs.length->zs.toArray[i]! <= zs.toArray[j]! := by
 intro i j hij hj;have hi:i<zs.length:=by omega
 have e1:zs.toArray[i]! = zs[i]:=by simp [hi]
 have e2:zs.toArray[j]! = zs[j]:=by simp [hj]
 rw [e1,e2];by_cases e:i=j
 ·subst e;exact Int.le_refl _
 ·have:=YAa.1 hp i j hi hj (by omega);simpa using this

def Zcr (a b:List Int):List Int:=Lib.compact ((a++b).mergeSort fun x y=>decide (x<=y))

theorem Zfy {a b:List Int}{x:Int}:x∈Zcr a b↔x∈a\/x∈b:=by
 unfold Zcr;rw [Zlt,List.mem_mergeSort,YAF]

theorem Zhc (a b:List Int):(Zcr a b).Pairwise (· < ·):=by
 unfold Zcr Lib.compact;refine ZmP _ _ ?_ _ (YA _);have hp:=List.pairwise_mergeSort (le:=fun x y:Int=>decide (x<=y)) (fun a b c h1 h2=>by simp at h1 h2 |-;omega) (fun a b=>by simp;omega) (a++b);exact ZnJ hp

end Go.Proofs.YtikloccefmofdaaGreat
namespace Go.Proofs.YtikloccefmofdaaGreat
open Go.RowKit
set_option linter.unusedSimpArgs false
set_option linter.unusedVariables false
set_option maxRecDepth 100000
set_option maxHeartbeats 8000000
variable {l:List Int}{B cap len p:Nat}{a:Option Addr}{v:Value}{W W' w:World}
def blE (b:Bool):List Value:=[.bool b]
theorem ZrJ (b:Bool):(blE b).length=1:=rfl
theorem ZrK (b:Bool):∀ u∈blE b,u.oneCell'=true:=by
 intro u hu;simp only [blE,YAb,List.not_mem_nil,or_false] at hu;subst hu;rfl
def Zbh (W:World)(v:Value)(bs:List Bool)(B:Nat):Prop:=ZaU blE 1 W v bs B
theorem Zbh.shape {bs:List Bool}(h:Zbh W v bs B):∃ a cap,v=.slice a bs.length cap:=by obtain ⟨a,cap,h,_⟩:=h;exact⟨a,cap,h⟩
theorem Zbh.cell {bs:List Bool}(h:Zbh W v bs B)(i:Nat)(b:Bool)(hb:bs[i]? = some b):∃ g off cap,v=.slice (some ⟨g,off,none⟩) bs.length cap/\g<B/\W.cell? ⟨g,off+i,none⟩=some (.bool b):=by
 obtain⟨g,off,cap,hv,hg,hc⟩:=ZaU.cell h ZrJ i b hb;refine⟨g,off,cap,hv,hg,?_⟩;have:=hc 0 _ rfl;simpa using this
theorem ZbC (p:Nat)(a:Option Addr)(len cap:Nat)(n:Int)(w:World)(hc:Cur w p a len cap)(hn:0<n)(hn2:n<=1000000000000):
  Calls Tryz.prog 38 #[.pointer (some ⟨p,0,none⟩),.int .i64 n] w fun e w'=>∃ x:Int,e=.returned (.int .i64 x)/\0<=x/\x<n/\Cur w' p a len cap/\w.grownBy w' (some p):=by
 by_cases h256:n<=256
 ·go_enter Tryz.func38,Tryz.ntmps38
  go_wp2_with fail
  refine (Zfp p a len cap _ hc).mono ?_;rintro e w1 ⟨x,rfl,h0,h1,hc1,hg1⟩;have hr0:=Int.emod_nonneg x (show n≠0 by omega);have hr1:=Int.emod_lt_of_pos x hn;have htm:x.tmod n=x%n:=Int.tmod_eq_emod_of_nonneg h0;have HG:=hide hg1;have HC:=hide hc1;clear hc1 hg1 hc;go_wp2;go_ret;exact⟨_,rfl,hr0,hr1,HC.out,HG.out⟩
 ·go_enter Tryz.func38,Tryz.ntmps38
  go_wp2_with fail
  refine (Zfp p a len cap _ hc).mono ?_;rintro e w1 ⟨x,rfl,hx0,hx1,hc1,hg1⟩;have HG1:=hide hg1;clear hc hg1
  go_wp2_with fail
  refine (Zfp p a len cap _ hc1).mono ?_;rintro e w2 ⟨y,rfl,hy0,hy1,hc2,hg2⟩;have HG2:=hide hg2;clear hc1 hg2
  go_wp2_with fail
  refine (Zfp p a len cap _ hc2).mono ?_;rintro e w3 ⟨z,rfl,hz0,hz1,hc3,hg3⟩;have HG3:=hide hg3;clear hc2 hg3
  go_wp2_with fail
  refine (Zfp p a len cap _ hc3).mono ?_;rintro e w4 ⟨u,rfl,hu0,hu1,hc4,hg4⟩;have HG4:=hide hg4;have HC4:=hide hc4;clear hc3 hg4 hc4;have hr0:=Int.emod_nonneg (x*16777216+y*65536+z*256+u) (show n≠0 by omega);have hr1:=Int.emod_lt_of_pos (x*16777216+y*65536+z*256+u) hn;have htm:(x*16777216+y*65536+z*256+u).tmod n=(x*16777216+y*65536+z*256+u)%n:=Int.tmod_eq_emod_of_nonneg (by omega);go_wp2;go_ret;exact⟨_,rfl,hr0,hr1,HC4.out,Zai HG1.out (Zai HG2.out (Zai HG3.out HG4.out))⟩
theorem Zci (h:Cur w p a len cap):p<w.heap.size:=by
 obtain⟨⟨i,hh,hi,e⟩,_⟩:=h;rcases Nat.lt_or_ge p w.heap.size with hl | hl
 ·exact hl
 ·rw [Array.getElem?_eq_none hl] at e;cases e
theorem Cur.appended {w':World}{base:Nat}{e:TypeId}{n:Nat}{xs:List Value}(o:Obj)(h:Cur w p a len cap)(hown:w.ownsRow base e 1 v n xs)(hb:p<base)(hg:(w.alloc o).grownBy w' v.ownBlock):Cur w' p a len cap:=by
 have h1:Cur (w.alloc o) p a len cap:=h.grown (row:=none) ⟨rfl,rfl,rfl,by simp,fun k hk _=>YAH _ _ _ hk⟩ (fun b _=>by simp);refine h1.grown hg (fun b hbp he=>?_);have:=(hown.lt b he.symm).1;omega
structure Nr where
 to:Int
 c:Int
 deriving DecidableEq
instance:Inhabited Nr:=⟨⟨0,0⟩⟩
def nrV (l:Nr):Value:=.agg #[.int .i64 l.to,.int .i64 l.c]
def nrE (l:Nr):List Value:=[.int .i64 l.to,.int .i64 l.c]
theorem Zjj (l:Nr):(nrE l).length=2:=rfl
def Zat (W:World)(v:Value)(ls:List Nr)(B:Nat):Prop:=ZaU nrE 2 W v ls B
theorem Zat.then {ls:List Nr}(h:Zat W v ls W.heap.size)(hb:Below W.heap.size W W'):Zat W' v ls W'.heap.size:=Zav.then h hb
theorem Zat.shape {ls:List Nr}(h:Zat W v ls B):∃ a cap,v=.slice a ls.length cap:=by obtain ⟨a,cap,h,_⟩:=h;exact⟨a,cap,h⟩
theorem Zat.cells {ls:List Nr}(h:Zat W v ls B)(i:Nat)(l:Nr)(hl:ls[i]? = some l):
  ∃ b off cap,v=.slice (some ⟨b,off,none⟩) ls.length cap/\b<B/\W.cell? ⟨b,off+i*2,none⟩=some (.int .i64 l.to)/\W.cell? ⟨b,off+i*2+1,none⟩=some (.int .i64 l.c):=by
 obtain⟨b,off,cap,hv,hb,hc⟩:=ZaU.cell h Zjj i l hl;exact⟨b,off,cap,hv,hb,hc 0 _ rfl,hc 1 _ rfl⟩
def nr0:Nr:=⟨0,0⟩
theorem Tryz.infoNr :(Tryz.prog.info? 62).map (fun i=>(i.zero,i.size,i.bytes))=some (some (nrV nr0),2,16):=by kernel_rfl
theorem ZaC {α:Type}{enc:α->List Value}(xs ys:List α):flat enc (xs++ys)=flat enc xs++flat enc ys:=by simp [flat]
theorem Za6 {α:Type}{enc:α->List Value}{sz bytes:Nat}(hlen:∀ a,(enc a).length=sz)(hpos:0<sz)(hone:∀ a,∀ u∈enc a,u.oneCell'=true)(hbb:bytes<=100){P:Program}(w:World){ops:Array Oper}{rest:List Oper}{o:Oper}{a:Act}{Q:Exit->Act->World->Prop}(hgd:o.guard=none)(s x:Operand)(t:TypeId)
  (ho:o.op=.call { callee:=.builtin .append,args:=#[s,x],argTypes:=#[t,t] }) (base:Nat) (e:TypeId) (ht:P.underlying t=some (.slice e)) (zv:Value) (hzv:zv.cells.size=sz)
  (hinfo:(P.info? e).map (fun i=>(i.zero,i.size,i.bytes))=some (some zv,sz,bytes))
  (v:Value) (l:List α) (y:α) (hs:a.eval s=v) (hown:w.ownsRow base e sz v l.length (flat enc l))
  (ad:Addr) (c:Nat) (hx:a.eval x=.slice (some ad) 1 c) (hnews:∀ j u,(enc y)[j]? = some u->w.cell? (ad.add j)=some u)
  (hl:l.length+1<=1000000000) (hbase:base<=w.heap.size)
  (h:∀ v' w' l',Hid (l'=l++[y])->w'.ownsRow base e sz v' l'.length (flat enc l')->w.grownBy w' v.ownBlock->wpList P ops Q rest (a.put o.dst v') w'):wpList P ops Q (o::rest) a w:=by
 obtain⟨i0,hi,hz0,hz1,hz2⟩:=info_parts hinfo;refine wpList_append_own w hgd s x t ho base e i0 zv sz bytes ht hi hz0 hz1 hz2 hzv hpos v l.length (flat enc l) hs hown ad 1 c (enc y) hx (by rw [hlen];omega) hnews (hone y) (by unfold maxLen;omega) ?_ hbase ?_
 ·have:(l.length+1)*bytes<=1000000000*100:=Nat.mul_le_mul hl hbb;omega
 ·intro v' w' h1 h2 _;have e1:flat enc l++enc y=flat enc (l++[y]):=by rw [ZaC];simp [flat]
  rw [e1] at h1;exact h v' w' (l++[y]) rfl (by simpa using h1) h2
theorem Zan {cs:List Value}{t:TypeId}:∀ (j:Nat) (u:Value),cs[j]? = some u->(w.alloc (.cells cs.toArray t)).cell? ((⟨w.heap.size,0,none⟩:Addr).add j)=some u:=by
 intro j u hj;have e:(⟨w.heap.size,0,none⟩:Addr).add j=⟨w.heap.size,j,none⟩:=by
  simp only [Addr.add]
  split <;> simp_all
 rw [e,World.cell?_alloc_at _ _ _ _ rfl];simpa using hj
def intC (zs:List Int)(j:Nat):Value:=.int .i64 (zs.getD j 0)
def IntsAt (W:World)(v:Value)(zs:List Int)(B:Nat):Prop:=Zav W v zs.length 1 (intC zs) B
theorem ZcZ {wr:World}(h:Below B w wr)(n:Nat):Below B w (wr.drewN n):=⟨h.os,h.tape,h.output,h.size,h.block⟩
def intE (z:Int):List Value:=[.int .i64 z]
theorem Zev (z:Int):(intE z).length=1:=rfl
theorem Zb7 (l:List Int):flat intE l=Zbb l:=by
 induction l with
 | nil=>rfl
 | cons x l ih=>rw [ZbJ,ih];rfl
def ZaI (W:World)(v:Value)(l:List Int)(B:Nat):Prop:=ZaU intE 1 W v l B
theorem ZaI.then (h:ZaI W v l W.heap.size)(hb:Below W.heap.size W W'):ZaI W' v l W'.heap.size:=Zav.then h hb
theorem ZaI.shape (h:ZaI W v l B):∃ a cap,v=.slice a l.length cap:=by obtain ⟨a,cap,h,_⟩:=h;exact⟨a,cap,h⟩
theorem ZaI.ints (h:ZaI W v l B):IntsAt W v l B:=by
 obtain⟨a,cap,hv,h2⟩:=h;refine⟨a,cap,hv,?_⟩;rcases h2 with h0 | ⟨b,off,ha,hb,hx⟩
 ·exact .inl h0
 ·refine .inr ⟨b,off,ha,hb,fun j hj=>?_⟩;rw [hx j hj,Zb7];have hj':j<l.length:=by omega
  simp [Zbb,intC,List.getD,YAA hj']
theorem ZaI.cell (h:ZaI W v l B)(i:Nat)(z:Int)(hz:l[i]? = some z):∃ b off cap,v=.slice (some ⟨b,off,none⟩) l.length cap/\b<B/\W.cell? ⟨b,off+i,none⟩=some (.int .i64 z):=by
 obtain⟨b,off,cap,hv,hb,hc⟩:=ZaU.cell h Zev i z hz;exact⟨b,off,cap,hv,hb,by have:=hc 0 _ rfl;simpa using this⟩
theorem Zch {base:Nat}(h:W.ownsRow base 3 1 v l.length (flat intE l)):ZaI W v l W.heap.size:=Zam h
structure Lk where
 a:Int
 b:Int
 c:Int
 r:Int
 deriving DecidableEq
structure Th where
 o:Int
 k:Int
 c:Int
 f:Bool
 deriving DecidableEq
def lkV (l:Lk):Value:=.agg #[.int .i64 l.a,.int .i64 l.b,.int .i64 l.c,.int .i64 l.r]
def thV (t:Th):Value:=.agg #[.int .i64 t.o,.int .i64 t.k,.int .i64 t.c,.bool t.f]
theorem Zr2 (a:Option Addr)(len cap:Nat)(w:World)(hc:Code w a len w.heap.size):
  Calls Tryz.prog 12 #[.slice a len cap] w fun e w'=>e=.returned (.pointer (some ⟨w.heap.size,0,none⟩))/\Cur w' w.heap.size a len cap/\Below w.heap.size w w':=by
 have hlen:=hc.1;have HC:=hide hc;clear hc;have fin:∀ h:Int,Cur (w.alloc (.cells #[.slice a len cap,.int .i64 0,.int .i64 h] 74)) w.heap.size a len cap:=fun h=>
  ⟨⟨0,h,by omega,YAE w _⟩,HC.out.grown (row:=none) ⟨rfl,rfl,rfl,by simp,fun k hk _=>YAH _ _ _ hk⟩ (fun b _=>by simp)⟩
 have FIN:=hide fin;clear fin;by_cases h0:len=0
 ·subst h0
  go_enter Tryz.func12,Tryz.ntmps12
  go_wp2;refine wp_loop_rounds 1 ?_;rw [rounds_succ];go_wp2;go_ret;exact⟨rfl,FIN.out _,(YAC _ _).alloc (YA _) _⟩
 ·obtain ⟨b,off,ha,hb,hx⟩:∃ b off,a=some ⟨b,off,none⟩/\b<w.heap.size/\∀ i,i<len->∃ x:Nat,x<256/\w.cell? ⟨b,off+i,none⟩=some (.int .u8 (x:Int)):=by
   rcases HC.out.2 with h | h
   ·exact absurd h h0
   ·exact h
  subst ha;have HX:=hide hx;clear hx
  go_enter Tryz.func12,Tryz.ntmps12
  go_wp2
  go_loop [3,4] (fun h i=>∃ (k:Nat) (z:Int),k<=len/\i=.int .i64 k/\h=.int .i64 z) (fun _ i=>len-(intOf i).toNat)
  case atStart=>exact ⟨0,_,by omega,rfl,rfl⟩
  case round=>
   obtain⟨k,z,hk,rfl,rfl⟩:=hrel;by_cases hlt:k<len
   ·obtain ⟨x,hx1,hx2⟩:=HX.out k hlt;have hki:(k:Int)<(len:Int):=by omega
    by_cases h4:(k:Int)<4000
    ·go_wp2
     go_round
     case rel=>exact ⟨k+1,_,by omega,by go_num,rfl⟩
     case measure=>simp [intOf];omega
    ·go_wp2;go_ret;exact⟨rfl,FIN.out _,(YAC _ _).alloc (YA _) _⟩
   ·go_wp2;go_ret;exact⟨rfl,FIN.out _,(YAC _ _).alloc (YA _) _⟩
theorem Zcf (h:Cur w p a len cap)(o:Obj):Cur (w.alloc o) p a len cap:=
 h.grown (row:=none) ⟨rfl,rfl,rfl,by simp,fun k hk _=>YAH _ _ _ hk⟩ (fun b _=>by simp)
theorem Zn8 (a:Option Addr)(len cap:Nat)(w:World):Calls Tryz.prog 4 #[.slice a len cap] w fun e w'=>e=.returned (.bool (decide ((1048576:Int)<(len:Int))))/\w=w':=by
 go_enter Tryz.func4,Tryz.ntmps4
 go_wp2;go_ret;exact⟨rfl,rfl⟩
theorem ZmY {w':World}(h:Code w a len w.heap.size)(hb:Below w.heap.size w w'):Code w' a len w'.heap.size:=by
 refine⟨h.1,?_⟩;rcases h.2 with h0 | ⟨b,off,ha,hb1,hx⟩
 ·exact .inl h0
 ·refine .inr ⟨b,off,ha,by have:=hb.size;omega,fun i hi=>?_⟩;obtain⟨x,h1,h2⟩:=hx i hi;exact⟨x,h1,by rw [hb.cell (p:=⟨b,off+i,none⟩) hb1];exact h2⟩
theorem Zjk (p:Nat)(a:Option Addr)(len cap:Nat)(n:Int)(w:World)(hc:Cur w p a len cap)(hn:0<n)(hn2:n<=1000000000000):
  Calls Tryz.prog 14 #[.pointer (some ⟨p,0,none⟩),.int .i64 n] w fun e w'=>∃ x:Bool,e=.returned (.bool x)/\Cur w' p a len cap/\w.grownBy w' (some p):=by
 go_enter Tryz.func14,Tryz.ntmps14
 go_wp2_with fail
 refine (ZbC p a len cap n _ hc hn hn2).mono ?_;rintro e w1 ⟨x,rfl,h0,h1,hc1,hg1⟩;have HG:=hide hg1;have HC:=hide hc1;clear hc1 hg1 hc;go_wp2;go_ret;exact⟨_,rfl,HC.out,HG.out⟩
theorem Zeg (R:Int->Prop)(p:Nat)(a:Option Addr)(len cap:Nat)(g n:Nat)(w:World)(hc:Cur w p a len cap)(hn:0<n)(hn2:n<=1000)(hg:g≠p)(hz:∀ k,k<n->∃ z:Int,R z/\w.cell? ⟨g,k,none⟩=some (.int .i64 z)):
  Calls Tryz.prog 39 #[.pointer (some ⟨p,0,none⟩),.slice (some ⟨g,0,none⟩) n n] w fun e w'=>∃ x:Int,e=.returned (.int .i64 x)/\R x/\Cur w' p a len cap/\w.grownBy w' (some p):=by
 have HZ:=hide hz;have HC:=hide hc;clear hz hc
 go_enter Tryz.func39,Tryz.ntmps39
 go_wp2_with fail
 refine (ZbC p a len cap _ _ HC.out (by omega) (by omega)).mono ?_;rintro e w1 ⟨x,rfl,h0,h1,hc1,hg1⟩;obtain⟨z,hR,hz⟩:=HZ.out x.toNat (by omega);have hz1:=hg1.cell hz (by simp;exact hg);have hxn:x<(n:Int):=h1;have HR:=hide hR;have HG:=hide hg1;have HC1:=hide hc1;clear hg1 hc1 hz hR;go_wp2;go_ret;exact⟨_,rfl,HR.out,HC1.out,HG.out⟩
structure RecD where
 area:Int
 kind:Int
 owner:Int
 key:Int
 seq:Int
 near:List Nr
 cost:Int
 far:Bool
 deriving DecidableEq
def recC (x:RecD)(v:Value):Array Value:=#[.int .i64 x.area,.int .i64 x.kind,.int .i64 x.owner,.int .i64 x.key,.int .i64 x.seq,v,.int .i64 x.cost,.bool x.far]
def ZnU (W:World)(v:Value)(x:RecD)(B:Nat):Prop:=∃ v1,v=.agg (recC x v1)/\Zat W v1 x.near B
theorem ZnU.then {x:RecD}(h:ZnU W v x W.heap.size)(hb:Below W.heap.size W W'):ZnU W' v x W'.heap.size:=by
 obtain⟨v1,hv,h1⟩:=h;exact⟨v1,hv,h1.then hb⟩
structure WayD where
 to:Int
 cost:Int
 hops:List Int
 deriving DecidableEq
def wayC (x:WayD)(v:Value):Array Value:=#[.int .i64 x.to,.int .i64 x.cost,v]
def ZrE (W:World)(v:Value)(x:WayD)(B:Nat):Prop:=∃ v1,v=.agg (wayC x v1)/\ZaI W v1 x.hops B
theorem ZrE.then {x:WayD}(h:ZrE W v x W.heap.size)(hb:Below W.heap.size W W'):ZrE W' v x W'.heap.size:=by
 obtain⟨v1,hv,h1⟩:=h;exact⟨v1,hv,h1.then hb⟩
def lkE (l:Lk):List Value:=[.int .i64 l.a,.int .i64 l.b,.int .i64 l.c,.int .i64 l.r]
def thE (t:Th):List Value:=[.int .i64 t.o,.int .i64 t.k,.int .i64 t.c,.bool t.f]
theorem Zjg (l:Lk):(lkE l).length=4:=rfl
theorem Zju (t:Th):(thE t).length=4:=rfl
def ZaK (W:World)(v:Value)(ls:List Lk)(B:Nat):Prop:=ZaU lkE 4 W v ls B
def ZaS (W:World)(v:Value)(ts:List Th)(B:Nat):Prop:=ZaU thE 4 W v ts B
theorem ZaK.then {ls:List Lk}(h:ZaK W v ls W.heap.size)(hb:Below W.heap.size W W'):ZaK W' v ls W'.heap.size:=Zav.then h hb
theorem ZaS.then {ls:List Th}(h:ZaS W v ls W.heap.size)(hb:Below W.heap.size W W'):ZaS W' v ls W'.heap.size:=Zav.then h hb
theorem ZaK.shape {ls:List Lk}(h:ZaK W v ls B):∃ a cap,v=.slice a ls.length cap:=by obtain ⟨a,cap,h,_⟩:=h;exact⟨a,cap,h⟩
theorem ZaS.shape {ls:List Th}(h:ZaS W v ls B):∃ a cap,v=.slice a ls.length cap:=by obtain ⟨a,cap,h,_⟩:=h;exact⟨a,cap,h⟩
theorem ZaK.cells {ls:List Lk}(h:ZaK W v ls B)(i:Nat)(l:Lk)(hl:ls[i]? = some l):
  ∃ b off cap,v=.slice (some ⟨b,off,none⟩) ls.length cap/\b<B/\W.cell? ⟨b,off+i*4,none⟩=some (.int .i64 l.a)/\W.cell? ⟨b,off+i*4+1,none⟩=some (.int .i64 l.b) /\
   W.cell? ⟨b,off+i*4+2,none⟩=some (.int .i64 l.c)/\W.cell? ⟨b,off+i*4+3,none⟩=some (.int .i64 l.r):=by
 obtain⟨b,off,cap,hv,hb,hc⟩:=ZaU.cell h Zjg i l hl;exact⟨b,off,cap,hv,hb,hc 0 _ rfl,hc 1 _ rfl,hc 2 _ rfl,hc 3 _ rfl⟩
theorem ZaS.cells {ls:List Th}(h:ZaS W v ls B)(i:Nat)(l:Th)(hl:ls[i]? = some l):
  ∃ b off cap,v=.slice (some ⟨b,off,none⟩) ls.length cap/\b<B/\W.cell? ⟨b,off+i*4,none⟩=some (.int .i64 l.o)/\W.cell? ⟨b,off+i*4+1,none⟩=some (.int .i64 l.k) /\
   W.cell? ⟨b,off+i*4+2,none⟩=some (.int .i64 l.c)/\W.cell? ⟨b,off+i*4+3,none⟩=some (.bool l.f):=by
 obtain⟨b,off,cap,hv,hb,hc⟩:=ZaU.cell h Zju i l hl;exact⟨b,off,cap,hv,hb,hc 0 _ rfl,hc 1 _ rfl,hc 2 _ rfl,hc 3 _ rfl⟩
theorem ZeR {α:Type}{enc:α->List Value}{sz bytes:Nat}(hlen:∀ a,(enc a).length=sz)(hpos:0<sz)(hbb:bytes<=100){P:Program}(w:World){o:Oper}{a:Act}{K:Act->World->Prop}{Q:Exit->Act->World->Prop}(s x:Operand)(t:TypeId)
  (ho:o.op=.call { callee:=.builtin .append,args:=#[s,x],argTypes:=#[t,t] }) (base:Nat) (e:TypeId) (ht:P.underlying t=some (.slice e)) (zv:Value) (hzv:zv.cells.size=sz)
  (hinfo:(P.info? e).map (fun i=>(i.zero,i.size,i.bytes))=some (some zv,sz,bytes))
  (v:Value) (l:List α) (y:α) (hone:∀ u∈enc y,u.oneCell'=true) (hs:a.eval s=v) (hown:w.ownsRow base e sz v l.length (flat enc l))
  (ad:Addr) (c:Nat) (hx:a.eval x=.slice (some ad) 1 c) (hnews:∀ j u,(enc y)[j]? = some u->w.cell? (ad.add j)=some u)
  (hl:l.length+1<=1000000000) (hbase:base<=w.heap.size)
  (h:∀ v' w',w'.ownsRow base e sz v' (l++[y]).length (flat enc (l++[y]))->w.grownBy w' v.ownBlock->K (a.put o.dst v') w'):o.wp P a w K Q:=by
 obtain⟨i0,hi,hz0,hz1,hz2⟩:=info_parts hinfo;refine wp_append_own w s x t ho base e i0 zv sz bytes ht hi hz0 hz1 hz2 hzv hpos v l.length (flat enc l) hs hown ad 1 c (enc y) hx (by rw [hlen];omega) hnews hone (by unfold maxLen;omega) ?_ hbase ?_
 ·have:(l.length+1)*bytes<=1000000000*100:=Nat.mul_le_mul hl hbb;omega
 ·intro v' w' h1 h2 _;have e1:flat enc l++enc y=flat enc (l++[y]):=by rw [ZaC];simp [flat]
  rw [e1] at h1;exact h v' w' (by simpa using h1) h2
end Go.Proofs.YtikloccefmofdaaGreat
