/-
  Parts.
-/
import Derived.Test.YtdhnddfnckgbjaaGreatZi1
namespace Go.Proofs.YtdhnddfnckgbjaaGreat
open Go.RowKit
set_option linter.unusedSimpArgs false
set_option linter.unusedVariables false
set_option maxRecDepth 100000
set_option maxHeartbeats 8000000
variable {f r:Int}{l:List Int}{B cap k len p t:Nat}{a:Option Addr}{v:Value}{W W' w w':World}
structure Lk where
 a:Int
 b:Int
 c:Int
 r:Int
 deriving DecidableEq
structure Th where
 o:Int
 k:Int
 c:Int
 f:Bool
 deriving DecidableEq
def lkV (l:Lk):Value:=.agg #[.int .i64 l.a,.int .i64 l.b,.int .i64 l.c,.int .i64 l.r]
def thV (t:Th):Value:=.agg #[.int .i64 t.o,.int .i64 t.k,.int .i64 t.c,.bool t.f]
structure Nr where
 to:Int
 c:Int
 deriving DecidableEq
instance:Inhabited Nr:=⟨⟨0,0⟩⟩
def nrV (l:Nr):Value:=.agg #[.int .i64 l.to,.int .i64 l.c]
def nrE (l:Nr):List Value:=[.int .i64 l.to,.int .i64 l.c]
theorem Zji (l:Nr):(nrE l).length=2:=rfl
def ZaJ (W:World)(v:Value)(ls:List Nr)(B:Nat):Prop:=Zaw nrE 2 W v ls B
theorem ZaJ.then {ls:List Nr}(h:ZaJ W v ls W.heap.size)(hb:Below W.heap.size W W'):ZaJ W' v ls W'.heap.size:=Zau.then h hb
theorem ZaJ.shape {ls:List Nr}(h:ZaJ W v ls B):∃ a cap,v=.slice a ls.length cap:=by obtain ⟨a,cap,h,_⟩:=h;exact⟨a,cap,h⟩
theorem ZaJ.cells {ls:List Nr}(h:ZaJ W v ls B)(i:Nat)(l:Nr)(hl:ls[i]? = some l):
  ∃ b off cap,v=.slice (some ⟨b,off,none⟩) ls.length cap/\b<B/\W.cell? ⟨b,off+i*2,none⟩=some (.int .i64 l.to)/\W.cell? ⟨b,off+i*2+1,none⟩=some (.int .i64 l.c):=by
 obtain⟨b,off,cap,hv,hb,hc⟩:=Zaw.cell h Zji i l hl;exact⟨b,off,cap,hv,hb,hc 0 _ rfl,hc 1 _ rfl⟩
def nr0:Nr:=⟨0,0⟩
theorem Tryz.infoNr :(Tryz.prog.info? 135).map (fun i=>(i.zero,i.size,i.bytes))=some (some (nrV nr0),2,16):=by kernel_rfl
theorem ZaQ {α:Type}{enc:α->List Value}(xs ys:List α):flat enc (xs++ys)=flat enc xs++flat enc ys:=by simp [flat]
theorem Zaz {α:Type}{enc:α->List Value}{sz bytes:Nat}(hlen:∀ a,(enc a).length=sz)(hpos:0<sz)(hone:∀ a,∀ u∈enc a,u.oneCell'=true)(hbb:bytes<=100){P:Program}(w:World){ops:Array Oper}{rest:List Oper}{o:Oper}{a:Act}{Q:Exit->Act->World->Prop}(hgd:o.guard=none)(s x:Operand)(t:TypeId)
  (ho:o.op=.call { callee:=.builtin .append,args:=#[s,x],argTypes:=#[t,t] }) (base:Nat) (e:TypeId) (ht:P.underlying t=some (.slice e)) (zv:Value) (hzv:zv.cells.size=sz)
  (hinfo:(P.info? e).map (fun i=>(i.zero,i.size,i.bytes))=some (some zv,sz,bytes))
  (v:Value) (l:List α) (y:α) (hs:a.eval s=v) (hown:w.ownsRow base e sz v l.length (flat enc l))
  (ad:Addr) (c:Nat) (hx:a.eval x=.slice (some ad) 1 c) (hnews:∀ j u,(enc y)[j]? = some u->w.cell? (ad.add j)=some u)
  (hl:l.length+1<=1000000000) (hbase:base<=w.heap.size)
  (h:∀ v' w' l',Hid (l'=l++[y])->w'.ownsRow base e sz v' l'.length (flat enc l')->w.grownBy w' v.ownBlock->wpList P ops Q rest (a.put o.dst v') w'):wpList P ops Q (o::rest) a w:=by
 obtain⟨i0,hi,hz0,hz1,hz2⟩:=info_parts hinfo;refine wpList_append_own w hgd s x t ho base e i0 zv sz bytes ht hi hz0 hz1 hz2 hzv hpos v l.length (flat enc l) hs hown ad 1 c (enc y) hx (by rw [hlen];omega) hnews (hone y) (by unfold maxLen;omega) ?_ hbase ?_
 ·have:(l.length+1)*bytes<=1000000000*100:=Nat.mul_le_mul hl hbb;omega
 ·intro v' w' h1 h2 _;have e1:flat enc l++enc y=flat enc (l++[y]):=by rw [ZaQ];simp [flat]
  rw [e1] at h1;exact h v' w' (l++[y]) rfl (by simpa using h1) h2
theorem Zak {cs:List Value}{t:TypeId}:∀ (j:Nat) (u:Value),cs[j]? = some u->(w.alloc (.cells cs.toArray t)).cell? ((⟨w.heap.size,0,none⟩:Addr).add j)=some u:=by
 intro j u hj;have e:(⟨w.heap.size,0,none⟩:Addr).add j=⟨w.heap.size,j,none⟩:=by
  simp only [Addr.add]
  split <;> simp_all
 rw [e,World.cell?_alloc_at _ _ _ _ rfl];simpa using hj
def intC (zs:List Int)(j:Nat):Value:=.int .i64 (zs.getD j 0)
def ZhT (W:World)(v:Value)(zs:List Int)(B:Nat):Prop:=Zau W v zs.length 1 (intC zs) B
theorem ZbP {wr:World}(h:Below B w wr)(n:Nat):Below B w (wr.drewN n):=⟨h.os,h.tape,h.output,h.size,h.block⟩
theorem ZgQ {xs ys:List Int}(h:xs.getD k 0≠ys.getD k 0):¬xs=ys:=by
 rintro rfl;exact h rfl
theorem ZfZ {xs ys:List Int}(hl:xs.length=ys.length)(h:∀ j,j<xs.length->xs.getD j 0=ys.getD j 0):xs=ys:=by
 apply List.ext_getElem hl;intro i h1 h2;have:=h i h1;simpa [List.getD,YAA h1,YAA h2] using this
def intE (z:Int):List Value:=[.int .i64 z]
theorem Zc8 (z:Int):(intE z).length=1:=rfl
theorem Zfw (l:List Int):flat intE l=ZbU l:=by
 induction l with
 | nil=>rfl
 | cons x l ih=>rw [Zeq,ih];rfl
def Zal (W:World)(v:Value)(l:List Int)(B:Nat):Prop:=Zaw intE 1 W v l B
theorem Zal.then (h:Zal W v l W.heap.size)(hb:Below W.heap.size W W'):Zal W' v l W'.heap.size:=Zau.then h hb
theorem Zal.shape (h:Zal W v l B):∃ a cap,v=.slice a l.length cap:=by obtain ⟨a,cap,h,_⟩:=h;exact⟨a,cap,h⟩
theorem Zal.ints (h:Zal W v l B):ZhT W v l B:=by
 obtain⟨a,cap,hv,h2⟩:=h;refine⟨a,cap,hv,?_⟩;rcases h2 with h0 | ⟨b,off,ha,hb,hx⟩
 ·exact .inl h0
 ·refine .inr ⟨b,off,ha,hb,fun j hj=>?_⟩;rw [hx j hj,Zfw];have hj':j<l.length:=by omega
  simp [ZbU,intC,List.getD,YAA hj']
theorem Zal.cell (h:Zal W v l B)(i:Nat)(z:Int)(hz:l[i]? = some z):∃ b off cap,v=.slice (some ⟨b,off,none⟩) l.length cap/\b<B/\W.cell? ⟨b,off+i,none⟩=some (.int .i64 z):=by
 obtain⟨b,off,cap,hv,hb,hc⟩:=Zaw.cell h Zc8 i z hz;exact⟨b,off,cap,hv,hb,by have:=hc 0 _ rfl;simpa using this⟩
theorem ZaM {base:Nat}(h:W.ownsRow base 3 1 v l.length (flat intE l)):Zal W v l W.heap.size:=Zan h
theorem Zlx (h:Cur w p a len cap)(o:Obj):Cur (w.alloc o) p a len cap:=
 h.grown (row:=none) ⟨rfl,rfl,rfl,by simp,fun k hk _=>YAI _ _ _ hk⟩ (fun b _=>by simp)
theorem Zlk (a:Option Addr)(len cap:Nat)(w:World):Calls Tryz.prog 4 #[.slice a len cap] w fun e w'=>e=.returned (.bool (decide ((1048576:Int)<(len:Int))))/\w=w':=by
 go_enter Tryz.func4,Tryz.ntmps4
 go_wp2;go_ret;exact⟨rfl,rfl⟩
def lkE (l:Lk):List Value:=[.int .i64 l.a,.int .i64 l.b,.int .i64 l.c,.int .i64 l.r]
def thE (t:Th):List Value:=[.int .i64 t.o,.int .i64 t.k,.int .i64 t.c,.bool t.f]
theorem Zhy (l:Lk):(lkE l).length=4:=rfl
theorem ZhK (t:Th):(thE t).length=4:=rfl
def ZaX (W:World)(v:Value)(ls:List Lk)(B:Nat):Prop:=Zaw lkE 4 W v ls B
def Zbq (W:World)(v:Value)(ts:List Th)(B:Nat):Prop:=Zaw thE 4 W v ts B
theorem ZaX.then {ls:List Lk}(h:ZaX W v ls W.heap.size)(hb:Below W.heap.size W W'):ZaX W' v ls W'.heap.size:=Zau.then h hb
theorem Zbq.then {ls:List Th}(h:Zbq W v ls W.heap.size)(hb:Below W.heap.size W W'):Zbq W' v ls W'.heap.size:=Zau.then h hb
theorem ZaX.shape {ls:List Lk}(h:ZaX W v ls B):∃ a cap,v=.slice a ls.length cap:=by obtain ⟨a,cap,h,_⟩:=h;exact⟨a,cap,h⟩
theorem Zbq.shape {ls:List Th}(h:Zbq W v ls B):∃ a cap,v=.slice a ls.length cap:=by obtain ⟨a,cap,h,_⟩:=h;exact⟨a,cap,h⟩
theorem ZaX.cells {ls:List Lk}(h:ZaX W v ls B)(i:Nat)(l:Lk)(hl:ls[i]? = some l):
  ∃ b off cap,v=.slice (some ⟨b,off,none⟩) ls.length cap/\b<B/\W.cell? ⟨b,off+i*4,none⟩=some (.int .i64 l.a)/\W.cell? ⟨b,off+i*4+1,none⟩=some (.int .i64 l.b) /\
   W.cell? ⟨b,off+i*4+2,none⟩=some (.int .i64 l.c)/\W.cell? ⟨b,off+i*4+3,none⟩=some (.int .i64 l.r):=by
 obtain⟨b,off,cap,hv,hb,hc⟩:=Zaw.cell h Zhy i l hl;exact⟨b,off,cap,hv,hb,hc 0 _ rfl,hc 1 _ rfl,hc 2 _ rfl,hc 3 _ rfl⟩
theorem Zbq.cells {ls:List Th}(h:Zbq W v ls B)(i:Nat)(l:Th)(hl:ls[i]? = some l):
  ∃ b off cap,v=.slice (some ⟨b,off,none⟩) ls.length cap/\b<B/\W.cell? ⟨b,off+i*4,none⟩=some (.int .i64 l.o)/\W.cell? ⟨b,off+i*4+1,none⟩=some (.int .i64 l.k) /\
   W.cell? ⟨b,off+i*4+2,none⟩=some (.int .i64 l.c)/\W.cell? ⟨b,off+i*4+3,none⟩=some (.bool l.f):=by
 obtain⟨b,off,cap,hv,hb,hc⟩:=Zaw.cell h ZhK i l hl;exact⟨b,off,cap,hv,hb,hc 0 _ rfl,hc 1 _ rfl,hc 2 _ rfl,hc 3 _ rfl⟩
structure RecD where
 area:Int
 kind:Int
 owner:Int
 key:Int
 seq:Int
 near:List Nr
 cost:Int
 far:Bool
 deriving DecidableEq
def recC (x:RecD)(v:Value):Array Value:=#[.int .i64 x.area,.int .i64 x.kind,.int .i64 x.owner,.int .i64 x.key,.int .i64 x.seq,v,.int .i64 x.cost,.bool x.far]
def Zn8 (W:World)(v:Value)(x:RecD)(B:Nat):Prop:=∃ v1,v=.agg (recC x v1)/\ZaJ W v1 x.near B
theorem Zn8.then {x:RecD}(h:Zn8 W v x W.heap.size)(hb:Below W.heap.size W W'):Zn8 W' v x W'.heap.size:=by
 obtain⟨v1,hv,h1⟩:=h;exact⟨v1,hv,h1.then hb⟩
structure WayD where
 to:Int
 cost:Int
 hops:List Int
 deriving DecidableEq
def wayC (x:WayD)(v:Value):Array Value:=#[.int .i64 x.to,.int .i64 x.cost,v]
def Zoa (W:World)(v:Value)(x:WayD)(B:Nat):Prop:=∃ v1,v=.agg (wayC x v1)/\Zal W v1 x.hops B
theorem Zoa.then {x:WayD}(h:Zoa W v x W.heap.size)(hb:Below W.heap.size W W'):Zoa W' v x W'.heap.size:=by
 obtain⟨v1,hv,h1⟩:=h;exact⟨v1,hv,h1.then hb⟩
abbrev DS:=Nat × Int
def mixN (h:Int):Int:=wrap64 (wrap64 (h*6364136223846793005)+1442695040888963407)
def rawN (h:Int):Int:=bits .and .i64 (bits .xor .i64 (h / 8589934592) (h / 35184372088832)) 255
def Zhk (len:Nat)(B:Nat->Int)(s:DS):Int × DS:=
 if s.1<len then (bits .and .i64 (rawN (mixN s.2)+B s.1) 255,(s.1+1,mixN s.2)) else (rawN (mixN s.2),(s.1,mixN s.2))
def strm (len:Nat)(B:Nat->Int):DS->Nat->Int
 | s,0=>(Zhk len B s).1
 | s,t+1=>strm len B (Zhk len B s).2 t
def Zgt (len:Nat)(B:Nat->Int):Nat->Int
 | 0=>13901+(len:Int)
 | k+1=>bits .and .i64 (wrap64 (wrap64 (wrap64 (Zgt len B k*131)+B k)+7)) 1073741823
def ZfA (w:World)(a:Option Addr)(len p:Nat)(B:Nat->Int):Prop:=
 len<=1048576/\(∀ i,i<len->0<=B i/\B i<256)/\(len=0\/∃ b off,a=some ⟨b,off,none⟩/\b<p/\∀ i,i<len->w.cell? ⟨b,off+i,none⟩=some (.int .u8 (B i)))
theorem Code.bytes (h:Code w a len p):∃ B,ZfA w a len p B:=by
 obtain⟨h1,h2⟩:=h;rcases h2 with h0 | ⟨b,off,ha,hb,hx⟩
 ·exact ⟨fun _=>0,h1,fun i hi=>by omega,.inl h0⟩
 ·refine ⟨fun i=>if h:i<len then ((Classical.choose (hx i h):Nat):Int) else 0,h1,fun i hi=>?_,.inr ⟨b,off,ha,hb,fun i hi=>?_⟩⟩
  ·have:=Classical.choose_spec (hx i hi);simp only [hi,dif_pos];omega
  ·have:=Classical.choose_spec (hx i hi);simp only [hi,dif_pos];exact this.2
theorem ZfA.grown {row:Option Nat}{B:Nat->Int}(h:ZfA w a len p B)(hg:w.grownBy w' row)(hr:∀ b,b<p->some b≠row):ZfA w' a len p B:=by
 refine⟨h.1,h.2.1,?_⟩;rcases h.2.2 with h0 | ⟨b,off,ha,hb,hx⟩
 ·exact .inl h0
 ·exact .inr ⟨b,off,ha,hb,fun i hi=>hg.cell (hx i hi) (hr b hb)⟩
theorem ZfA.later {B:Nat->Int}(h:ZfA w a len w.heap.size B)(hb:Below w.heap.size w w'):ZfA w' a len w'.heap.size B:=by
 refine⟨h.1,h.2.1,?_⟩;rcases h.2.2 with h0 | ⟨b,off,ha,hb1,hx⟩
 ·exact .inl h0
 ·exact .inr ⟨b,off,ha,by have:=hb.size;omega,fun i hi=>by rw [hb.cell (p:=⟨b,off+i,none⟩) hb1];exact hx i hi⟩
def CurT (w:World)(p:Nat)(a:Option Addr)(len cap:Nat)(σ:Nat->Int)(t:Nat):Prop:=
 ∃ (B:Nat->Int) (i:Nat) (h:Int),i<=len/\w.heap[p]? = some (.cells #[.slice a len cap,.int .i64 (i:Int),.int .i64 h] 87 (0,0))/\ZfA w a len p B/\∀ j,σ (t+j)=strm len B (i,h) j
theorem CurT.grown {σ:Nat->Int}{row:Option Nat}(h:CurT w p a len cap σ t)(hg:w.grownBy w' row)(hr:∀ b,b<=p->some b≠row):CurT w' p a len cap σ t:=by
 obtain⟨B,i,hh,hi,e,hc,hs⟩:=h;refine⟨B,i,hh,hi,?_,hc.grown hg (fun b hb=>hr b (by omega)),hs⟩;rw [hg.block p (Zab e) (hr p (YA _))];exact e
theorem CurT.alloc {σ:Nat->Int}(h:CurT w p a len cap σ t)(o:Obj):CurT (w.alloc o) p a len cap σ t:=
 h.grown (row:=none) ⟨rfl,rfl,rfl,by simp,fun k hk _=>YAI _ _ _ hk⟩ (fun b _=>by simp)
theorem CurT.lt {σ:Nat->Int}(h:CurT w p a len cap σ t):p<w.heap.size:=by
 obtain⟨B,i,hh,hi,e,hc,hs⟩:=h;exact Zab e
theorem CurT.end {W2:World}{σ:Nat->Int}{B:Nat->Int}{s:DS}(hc:ZfA w a len p B)(hs:∀ j,σ (t+j)=strm len B s j)(hg:w.grownBy W2 (some p))(i:Nat)(h:Int)(hi:i<=len)(hn:(Zhk len B s).2=(i,h))
  (hh:W2.heap[p]? = some (.cells #[.slice a len cap,.int .i64 (i:Int),.int .i64 h] 87 (0,0))):CurT W2 p a len cap σ (t+1)/\w.grownBy W2 (some p):=
 ⟨⟨B,i,h,hi,hh,hc.grown hg (fun b hb=>by simp;omega),fun j=>by
  have h1:=hs (j+1);rw [show t+(j+1)=t+1+j by omega] at h1;rw [h1, <-hn];rfl⟩,hg⟩
theorem ZmN (p:Nat)(a:Option Addr)(len cap:Nat)(σ:Nat->Int)(t:Nat)(w:World)(hc:CurT w p a len cap σ t):
  Calls Tryz.prog 63 #[.pointer (some ⟨p,0,none⟩)] w fun e w'=>∃ x:Int,e=.returned (.int .i64 x)/\0<=x/\x<=255/\Hid (x=σ t)/\CurT w' p a len cap σ (t+1)/\w.grownBy w' (some p):=by
 obtain⟨B,i,h,hi,hh,hcode,hs⟩:=hc;have hst:=hs 0;have hlen:=hcode.1;have c0:=Zaa hh 0;have c1:=Zaa hh 1;have c2:=Zaa hh 2;have f1:=Zae hh 1;have f2:=Zae hh 2;simp at c0 c1 c2;have HH:=hide hh;have HC:=hide hcode;have HS:=hide hs;have HST:=hide hst;clear hh hcode hs hst
 go_enter Tryz.func63,Tryz.ntmps63
 go_wp2;obtain⟨h2,hh2e⟩:∃ h2,wrap64 (wrap64 (h*6364136223846793005)+1442695040888963407)=h2:=⟨_,rfl⟩;rw [hh2e];have HE:=hide hh2e;clear hh2e;have hh2:(w.setCell ⟨p,2,none⟩ (.int .i64 h2)).heap[p]? = some (.cells #[.slice a len cap,.int .i64 (i:Int),.int .i64 h2] 87 (0,0)):=by
  rw [YAS w p 2 _ _ _ HH.out];rfl
 have hg1:w.grownBy (w.setCell ⟨p,2,none⟩ (.int .i64 h2)) (some p):=⟨rfl,rfl,rfl,by simp,fun k _ hk=>YAQ w ⟨p,2,none⟩ k _ (fun e=>hk (by simp [e]))⟩;generalize w.setCell ⟨p,2,none⟩ (.int .i64 h2)=W1 at hh2 hg1 |-;have d0:=Zaa hh2 0;have d1:=Zaa hh2 1;have d2:=Zaa hh2 2;have e1:=Zae hh2 1;simp at d0 d1 d2;have HH2:=hide hh2;clear hh2 c0 c1 c2 f1 f2;have hbx:=ZnW (bits .xor .i64 (h2 / 8589934592) (h2 / 35184372088832));by_cases hil:i<len
 ·have hil2:(i:Int)<(len:Int):=by omega
  have HN:=hide (show Zhk len B (i,h)=(bits .and .i64 (rawN h2+B i) 255,(i+1,h2)) by
   unfold Zhk;rw [if_pos hil];have:mixN h=h2:=HE.out;rw [this])
  have hcell:∃ b off,a=some ⟨b,off,none⟩/\b≠p/\(0<=B i/\B i<256)/\W1.cell? ⟨b,off+i,none⟩=some (.int .u8 (B i)):=by
   rcases HC.out.2.2 with h0 | ⟨b,off,ha,hb,hx⟩
   ·omega
   ·exact ⟨b,off,ha,by omega,HC.out.2.1 i hil,hg1.cell (hx i hil) (by simp;omega)⟩
  obtain⟨b,off,ha,hbp,⟨hx,hxx⟩,d3⟩:=hcell;subst ha;obtain⟨x,hxe⟩:∃ x,x=B i:=⟨_,rfl⟩;rw [<-hxe] at d3 hx hxx;have HXE:=hide hxe;clear hxe
  go_quiet (fail)
  go_wp2;obtain⟨x0,hx0⟩:∃ x0,bits .and .i64 (bits .xor .i64 (h2 / 8589934592) (h2 / 35184372088832)) 255=x0:=⟨_,rfl⟩;rw [hx0] at hbx |-;have HX0:=hide hx0;clear hx0;obtain⟨hb0,hb1⟩:=hbx
  go_quiet (fail)
  go_wp2
  go_quiet (fail)
  go_wp2;go_ret;have hbz:=ZnW (x0+x);refine⟨_,rfl,hbz.1,hbz.2,hide ?_,CurT.end HC.out HS.out (Zaq hg1 (Zaq (Zd2 W1 _ _) (Zaj _ p 1 _))) (i+1) h2 (by omega) (by rw [HN.out]) (YAS (W1.drewN _) p 1 _ _ _ HH2.out)⟩;have h1:=HST.out;rw [Nat.add_zero] at h1;rw [h1];show _=(Zhk len B (i,h)).1;rw [HN.out,HXE.out];show _=bits .and .i64 (rawN h2+B i) 255;rw [show rawN h2=x0 from HX0.out]
 ·have hil2:¬(i:Int)<(len:Int):=by omega
  have HN:=hide (show Zhk len B (i,h)=(rawN h2,(i,h2)) by
   unfold Zhk;rw [if_neg hil];have:mixN h=h2:=HE.out;rw [this])
  go_quiet (fail)
  go_wp2;obtain⟨x0,hx0⟩:∃ x0,bits .and .i64 (bits .xor .i64 (h2 / 8589934592) (h2 / 35184372088832)) 255=x0:=⟨_,rfl⟩;rw [hx0] at hbx |-;have HX0:=hide hx0;clear hx0;obtain⟨hb0,hb1⟩:=hbx
  go_quiet (fail)
  go_wp2;go_ret;refine⟨_,rfl,hb0,hb1,hide ?_,CurT.end HC.out HS.out (Zaq hg1 (Zaq (Zd2 W1 _ _) (Zd2 _ _ _))) i h2 hi (by rw [HN.out]) HH2.out⟩;have h1:=HST.out;rw [Nat.add_zero] at h1;rw [h1];show _=(Zhk len B (i,h)).1;rw [HN.out];exact HX0.out.symm
theorem Za5 (p:Nat)(a:Option Addr)(len cap:Nat)(σ:Nat->Int)(t:Nat)(n:Int)(w:World)(hc:CurT w p a len cap σ t)(hn:0<n)(hn2:n<=256):
  Calls Tryz.prog 44 #[.pointer (some ⟨p,0,none⟩),.int .i64 n] w fun e w'=>∃ x:Int,e=.returned (.int .i64 x)/\0<=x/\x<n/\Hid (x=σ t%n)/\CurT w' p a len cap σ (t+1)/\w.grownBy w' (some p):=by
 go_enter Tryz.func44,Tryz.ntmps44
 go_wp2_with fail
 refine (ZmN p a len cap σ t _ hc).mono ?_;rintro e w1 ⟨x,rfl,h0,h1,hx,hc1,hg1⟩;have hr0:=Int.emod_nonneg x (show n≠0 by omega);have hr1:=Int.emod_lt_of_pos x hn;have htm:x.tmod n=x%n:=Int.tmod_eq_emod_of_nonneg h0;have HG:=hide hg1;have HC:=hide hc1;have HX:=hide (show x%n=σ t%n by rw [hx.out]);clear hc1 hg1 hc hx;go_wp2;go_ret;exact⟨_,rfl,hr0,hr1,HX,HC.out,HG.out⟩
theorem Zfy (p:Nat)(a:Option Addr)(len cap:Nat)(σ:Nat->Int)(t:Nat)(n:Int)(w:World)(hc:CurT w p a len cap σ t)(hn:0<n)(hn2:n<=256):
  Calls Tryz.prog 30 #[.pointer (some ⟨p,0,none⟩),.int .i64 n] w fun e w'=>∃ x:Bool,e=.returned (.bool x)/\Hid (x=decide (σ t%n=0))/\CurT w' p a len cap σ (t+1)/\w.grownBy w' (some p):=by
 go_enter Tryz.func30,Tryz.ntmps30
 go_wp2_with fail
 refine (Za5 p a len cap σ t n _ hc hn hn2).mono ?_;rintro e w1 ⟨x,rfl,h0,h1,hx,hc1,hg1⟩;have HG:=hide hg1;have HC:=hide hc1;clear hc1 hg1 hc;go_wp2;go_ret;refine⟨_,rfl,hide ?_,HC.out,HG.out⟩;rw [<-hx.out]
 first | rfl | simp
def Zf5 (r:Int):Int:=if r=2 then 1 else if r=3 then 2 else 0
theorem ZeD (p:Nat)(a:Option Addr)(len cap:Nat)(σ:Nat->Int)(t:Nat)(g:Nat)(w:World)(hc:CurT w p a len cap σ t)(hg:g≠p)(hz:∀ k:Nat,k<4->w.cell? ⟨g,k,none⟩=some (.int .i64 (Zf5 k))):
  Calls Tryz.prog 55 #[.pointer (some ⟨p,0,none⟩),.slice (some ⟨g,0,none⟩) 4 4] w fun e w'=>∃ x:Int,e=.returned (.int .i64 x)/\(0<=x/\x<=2)/\Hid (x=Zf5 (σ t%4))/\CurT w' p a len cap σ (t+1)/\w.grownBy w' (some p):=by
 have HZ:=hide hz;have HC:=hide hc;clear hz hc
 go_enter Tryz.func55,Tryz.ntmps55
 go_wp2_with fail
 refine (Za5 p a len cap σ t _ _ HC.out (by omega) (by omega)).mono ?_;rintro e w1 ⟨x,rfl,h0,h1,hx,hc1,hg1⟩;obtain⟨k,rfl⟩:∃ k:Nat,x=(k:Int):=⟨x.toNat,by omega⟩;have hz1:=hg1.cell (HZ.out k (by omega)) (by simp;exact hg);have hxn:(k:Int)<4:=h1;have HX:=hide (show Zf5 k=Zf5 (σ t%4) by rw [hx.out]);have HP:=hide (show 0<=Zf5 k/\Zf5 k<=2 by unfold Zf5;split <;> (try split) <;> omega);obtain⟨z,hze⟩:∃ z,z=Zf5 k:=⟨_,rfl⟩;rw [<-hze] at hz1 HX HP;have HG:=hide hg1;have HC1:=hide hc1;clear hg1 hc1 hze hx;go_wp2;go_ret;exact⟨_,rfl,HP.out,HX,HC1.out,HG.out⟩
theorem Zl1 (p:Nat)(a:Option Addr)(len cap:Nat)(B:Nat->Int)(w:World)(hp:w.heap.size=p)(hc:ZfA w a len w.heap.size B):
  Calls Tryz.prog 28 #[.slice a len cap] w fun e w'=>e=.returned (.pointer (some ⟨p,0,none⟩))/\CurT w' p a len cap (strm len B (0,Zgt len B (min len 4000))) 0/\Below p w w':=by
 subst hp;have hlen:=hc.1;have HC:=hide hc;clear hc;have fin:∀ h:Int,h=Zgt len B (min len 4000)->CurT (w.alloc (.cells #[.slice a len cap,.int .i64 0,.int .i64 h] 87)) w.heap.size a len cap (strm len B (0,Zgt len B (min len 4000))) 0:=fun h e=>
  ⟨B,0,h,by omega,YAE w _,HC.out.grown (row:=none) ⟨rfl,rfl,rfl,by simp,fun k hk _=>YAI _ _ _ hk⟩ (fun b _=>by simp),fun j=>by rw [Nat.zero_add,e]⟩
 have FIN:=hide fin;clear fin;by_cases h0:len=0
 ·subst h0
  go_enter Tryz.func28,Tryz.ntmps28
  go_wp2;refine wp_loop_rounds 1 ?_;rw [rounds_succ];go_wp2;go_ret;exact⟨rfl,FIN.out _ rfl,(YAB _ _).alloc (YA _) _⟩
 ·obtain ⟨b,off,ha,hb,hx⟩:∃ b off,a=some ⟨b,off,none⟩/\b<w.heap.size/\∀ i,i<len->w.cell? ⟨b,off+i,none⟩=some (.int .u8 (B i)):=by
   rcases HC.out.2.2 with h | h
   ·exact absurd h h0
   ·exact h
  subst ha;have HX:=hide hx;clear hx
  go_enter Tryz.func28,Tryz.ntmps28
  go_wp2
  go_loop [3,4] (fun h i=>∃ (k:Nat) (z:Int),k<=len/\k<=4000/\i=.int .i64 k/\h=.int .i64 z/\Hid (z=Zgt len B k)) (fun _ i=>len-(intOf i).toNat)
  case atStart=>exact ⟨0,_,by omega,by omega,rfl,rfl,hide (by simp [Zgt])⟩
  case round=>
   obtain⟨k,z,hk,hk4,rfl,rfl,HZ⟩:=hrel;by_cases hlt:k<len
   ·have hx2:=HX.out k hlt;have hxb:=HC.out.2.1 k hlt;obtain⟨x,hxe⟩:∃ x,x=B k:=⟨_,rfl⟩;rw [<-hxe] at hx2 hxb;have HXE:=hide hxe;clear hxe;obtain⟨hx0,hx1⟩:=hxb;have hki:(k:Int)<(len:Int):=by omega
    by_cases h4:(k:Int)<4000
    ·have hk5:k+1<=4000:=by omega
     go_wp2
     go_round
     case rel=>exact ⟨k+1,_,by omega,hk5,by go_num,rfl,hide (by unfold Zgt;rw [<-HZ.out, <-HXE.out])⟩
     case measure=>simp [intOf];omega
    ·have hk5:k=min len 4000:=by omega
     have HK:=hide hk5;clear hk5;go_wp2;go_ret;exact⟨rfl,FIN.out _ (by rw [HZ.out,HK.out]),(YAB _ _).alloc (YA _) _⟩
   ·have hk5:k=min len 4000:=by omega
    have HK:=hide hk5;clear hk5;go_wp2;go_ret;exact⟨rfl,FIN.out _ (by rw [HZ.out,HK.out]),(YAB _ _).alloc (YA _) _⟩
theorem ZdV {α:Type}{enc:α->List Value}{sz bytes:Nat}(hlen:∀ a,(enc a).length=sz)(hpos:0<sz)(hbb:bytes<=100){P:Program}(w:World){o:Oper}{a:Act}{K:Act->World->Prop}{Q:Exit->Act->World->Prop}(s x:Operand)(t:TypeId)
  (ho:o.op=.call { callee:=.builtin .append,args:=#[s,x],argTypes:=#[t,t] }) (base:Nat) (e:TypeId) (ht:P.underlying t=some (.slice e)) (zv:Value) (hzv:zv.cells.size=sz)
  (hinfo:(P.info? e).map (fun i=>(i.zero,i.size,i.bytes))=some (some zv,sz,bytes))
  (v:Value) (l:List α) (y:α) (hone:∀ u∈enc y,u.oneCell'=true) (hs:a.eval s=v) (hown:w.ownsRow base e sz v l.length (flat enc l))
  (ad:Addr) (c:Nat) (hx:a.eval x=.slice (some ad) 1 c) (hnews:∀ j u,(enc y)[j]? = some u->w.cell? (ad.add j)=some u)
  (hl:l.length+1<=1000000000) (hbase:base<=w.heap.size)
  (h:∀ v' w',w'.ownsRow base e sz v' (l++[y]).length (flat enc (l++[y]))->w.grownBy w' v.ownBlock->K (a.put o.dst v') w'):o.wp P a w K Q:=by
 obtain⟨i0,hi,hz0,hz1,hz2⟩:=info_parts hinfo;refine wp_append_own w s x t ho base e i0 zv sz bytes ht hi hz0 hz1 hz2 hzv hpos v l.length (flat enc l) hs hown ad 1 c (enc y) hx (by rw [hlen];omega) hnews hone (by unfold maxLen;omega) ?_ hbase ?_
 ·have:(l.length+1)*bytes<=1000000000*100:=Nat.mul_le_mul hl hbb;omega
 ·intro v' w' h1 h2 _;have e1:flat enc l++enc y=flat enc (l++[y]):=by rw [ZaQ];simp [flat]
  rw [e1] at h1;exact h v' w' (by simpa using h1) h2
def ZdQ (f t r:Int)(l:Lk):Bool:=l.r==r&&((l.a==f&&l.b==t)||(l.a==t&&l.b==f))
def Zd1 (ls:List Lk)(f t r:Int):Int:=((ls.find? (ZdQ f t r)).map (·.c)).getD 0
theorem ZeQ {α:Type}(p:α->Bool):∀ (ls:List α) (k:Nat) (l:α),(∀ j,j<k->∀ x,ls[j]? = some x->p x=false)->ls[k]? = some l->p l=true->ls.find? p=some l
 | [],_,_,_,h,_=>by simp at h
 | y::ys,0,l,_,h,hp=>by simp at h;subst h;simp [hp]
 | y::ys,k+1,l,hno,h,hp=>by
  have h0:=hno 0 (by omega) y rfl;rw [List.find?_cons,h0];exact ZeQ p ys k l (fun j hj x hx=>hno (j+1) (by omega) x (by simpa using hx)) (by simpa using h) hp
theorem ZgN {α:Type}(p:α->Bool)(ls:List α)(h:∀ j,j<ls.length->∀ x,ls[j]? = some x->p x=false):ls.find? p=none:=by
 rw [List.find?_eq_none];intro x hx;obtain⟨i,hi,e⟩:=List.mem_iff_getElem.1 hx;rw [h i hi x (by rw [YAA hi,e])];decide
theorem Zjh {α:Type}{p:α->Bool}{ls:List α}{l:α}(h:∀ j,j<k->∀ x,ls[j]? = some x->p x=false)(hl:ls[k]? = some l)(hp:p l=false):∀ j,j<k+1->∀ x,ls[j]? = some x->p x=false:=by
 intro j hj x hx;by_cases e:j=k
 ·subst e;rw [hl] at hx;cases hx;exact hp
 ·exact h j (by omega) x hx
theorem ZmS {ls:List Lk}{t:Int}{l:Lk}(h:∀ j,j<k->∀ x,ls[j]? = some x->ZdQ f t r x=false)(hl:ls[k]? = some l)(hp:ZdQ f t r l=true):Zd1 ls f t r=l.c:=by
 unfold Zd1;rw [ZeQ _ ls k l h hl hp];rfl
theorem Zh9 {ls:List Lk}{t:Int}{l:Lk}(h:∀ j,j<k->∀ x,ls[j]? = some x->ZdQ f t r x=false)(hl:ls[k]? = some l)(hp:ZdQ f t r l=false):∀ j,j<k+1->∀ x,ls[j]? = some x->ZdQ f t r x=false:=Zjh h hl hp
theorem Zlw {ls:List Lk}{t:Int}(h:∀ j,j<k->∀ x,ls[j]? = some x->ZdQ f t r x=false)(hk:k=ls.length):Zd1 ls f t r=0:=by
 unfold Zd1;rw [ZgN _ ls (by rw [<-hk];exact h)];rfl
theorem Zme (n:Value)(v tv:Value)(ls:List Lk)(f t r:Int)(w:World)(hls:ls.length<=1048576)(hv:ZaX w v ls w.heap.size):
  Calls Tryz.prog 114 #[.agg #[n,v,tv],.int .i64 f,.int .i64 t,.int .i64 r] w fun e w'=>e=.returned (.int .i64 (Zd1 ls f t r))/\Below w.heap.size w w':=by
 obtain⟨a,cap,rfl⟩:∃ a cap,v=.slice a ls.length cap:=by obtain ⟨a,cap,h,_⟩:=hv;exact⟨a,cap,h⟩
 have HV:=hide hv;clear hv
 go_enter Tryz.func114,Tryz.ntmps114
 go_wp2
 go_loopw [9] (fun i wr=>∃ k:Nat,k<=ls.length/\i=.int .i64 k/\(∀ j,j<k->∀ l,ls[j]? = some l->ZdQ f t r l=false)/\Below w.heap.size w wr/\wr.heap[w.heap.size]? = some (.cells #[n,.slice a ls.length cap,tv] 81)) (fun i _=>ls.length-(intOf i).toNat)
 case atStart=>exact ⟨0,by omega,rfl,by omega,(YAB _ _).alloc (YA _) _,YAE w _⟩
 case round=>
  obtain⟨k,hk,rfl,hno,hb,hx⟩:=hrel;have hx1:wr.cell? ⟨w.heap.size,1,none⟩=some (.slice a ls.length cap):=by rw [Zaa hx];rfl
  have HX:=hide hx;have HNO:=hide hno;clear hx hno;by_cases hlt:k<ls.length
  ·obtain ⟨l,hl⟩:∃ l,ls[k]? = some l:=⟨ls[k],YAA hlt⟩;obtain⟨b,off,cap',hve,hbb,c0,c1,c2,c3⟩:=HV.out.cells k l hl;cases hve;replace c0:=(hb.cell hbb).trans c0;replace c1:=(hb.cell hbb).trans c1;replace c2:=(hb.cell hbb).trans c2;replace c3:=(hb.cell hbb).trans c3;have HL:=hide hl;clear hl;obtain⟨la,lb,lc,lr⟩:=l;go_wp2
   all_goals first
    | (go_ret
       refine⟨ZhG (ZmS HNO.out HL.out ?_).symm,hb.alloc hb.size _⟩;clear HV HX HL HNO hb hx1 c0 c1 c2 c3;simp only [ZdQ];grind)
    | (refine ⟨⟨k+1,by omega,by go_num,Zh9 HNO.out HL.out ?_,hb.alloc hb.size _,?_⟩,by simp [intOf];omega⟩
       ·clear HV HX HL HNO hb hx1 c0 c1 c2 c3;simp only [ZdQ];grind
       ·rw [YAI _ _ _ (Zab HX.out)];exact HX.out)
    | (subst_vars
       refine⟨⟨k+1,by omega,by go_num,Zh9 HNO.out HL.out ?_,hb.alloc hb.size _,?_⟩,by simp [intOf];omega⟩
       ·clear HV HX HL HNO hb hx1 c0 c1 c2 c3;simp only [ZdQ];grind
       ·rw [YAI _ _ _ (Zab HX.out)];exact HX.out)
  ·have hk':k=ls.length:=by omega
   have HK:=hide hk';clear hk';go_wp2;go_ret;exact⟨ZhG (Zlw HNO.out HK.out).symm,hb⟩
def mk (q:Int)(i:Nat):Nr:=⟨q+2*(i:Int),q+2*(i:Int)+1⟩
theorem ZbC {base size:Nat}{e:TypeId}{n:Nat}{xs:List Value}(h:w.ownsRow base e size v n xs)(hn:0<n):
  ∃ g cap,v=.slice (some ⟨g,0,none⟩) n cap/\base<=g/\g<w.heap.size:=by
 rcases h.2 with ⟨_,h0⟩ | ⟨g,cap,cur,hv,hb,hg,_⟩
 ·omega
 ·exact ⟨g,cap,hv,hb,Zab hg⟩
theorem ZeU (w:World)(r:Option Nat):w.grownBy w r:=⟨rfl,rfl,rfl,YA _,fun _ _ _=>rfl⟩
theorem Zj7 {a b:Int}(h:a=b):Ending.returned (.int .i64 a)=.returned (.int .i64 b):=by rw [h]
def Zbc (x y:RecD):Bool:=x.area==y.area&&x.kind==y.kind&&x.owner==y.owner&&x.key==y.key
theorem ZiD (v1 v2:Value)(x y:RecD)(w:World):Calls Tryz.prog 128 #[.agg (recC x v1),.agg (recC y v2)] w fun e w'=>e=.returned (.bool (Zbc x y))/\Below w.heap.size w w':=by
 obtain⟨a0,a1,a2,a3,a4,ns,a6,a7⟩:=x;obtain⟨b0,b1,b2,b3,b4,ms,b6,b7⟩:=y;unfold recC;simp only []
 go_enter Tryz.func128,Tryz.ntmps128
 go_wp2
 all_goals go_ret
 all_goals refine ⟨Zao ?_,ZaK _ _⟩
 all_goals (simp only [Zbc];grind)
def Zat (x y:RecD):Bool:=decide (x.area<y.area)||(x.area==y.area&&(decide (x.kind<y.kind)||(x.kind==y.kind&&(decide (x.owner<y.owner)||(x.owner==y.owner&&decide (x.key<y.key))))))
theorem Zed (v1 v2:Value)(x y:RecD)(w:World):Calls Tryz.prog 103 #[.agg (recC x v1),.agg (recC y v2)] w fun e w'=>e=.returned (.bool (Zat x y))/\Below w.heap.size w w':=by
 obtain⟨a0,a1,a2,a3,a4,ns,a6,a7⟩:=x;obtain⟨b0,b1,b2,b3,b4,ms,b6,b7⟩:=y;unfold recC;simp only []
 go_enter Tryz.func103,Tryz.ntmps103
 go_wp2
 all_goals go_ret
 all_goals refine ⟨Zao ?_,ZaK _ _⟩
 all_goals (simp only [Zat];grind)
def Zdb (owner:Int)(l:Nr):Bool:=inB l.to 1 6 && !(l.to==owner)&&inB l.c 1 1000
def ordN (p l:Nr):Int:=p.to-l.to
def Zb2 (owner:Int)(ns:List Nr):Bool:=ZcE (Zdb owner) ns&&ascB ordN ns
theorem Zmg (v1:Value)(x:RecD)(w:World)(hl:x.near.length<=1048576)(hv:ZaJ w v1 x.near w.heap.size):
  Calls Tryz.prog 123 #[.agg (recC x v1)] w fun e w'=>e=.returned (.bool (Zb2 x.owner x.near))/\Below w.heap.size w w':=by
 obtain⟨a1,c1,rfl⟩:=hv.shape;have HV:=hide hv;clear hv;unfold recC
 go_enter Tryz.func123,Tryz.ntmps123
 go_wp2
 go_loopw [3] (fun i wr=>∃ k:Nat,k<=x.near.length/\i=.int .i64 k/\(∀ j,j<k->okAt (Zdb x.owner) x.near j=true)/\(∀ j,j<k->Zdp ordN x.near j=true)/\Below w.heap.size w wr/\wr.heap[w.heap.size]? = some (.cells #[.int .i64 x.area,.int .i64 x.kind,.int .i64 x.owner,.int .i64 x.key,.int .i64 x.seq,.slice a1 x.near.length c1,.int .i64 x.cost,.bool x.far] 132)) (fun i _=>x.near.length-(intOf i).toNat)
 case atStart=>exact ⟨0,by omega,rfl,by omega,by omega,(YAB _ _).alloc (YA _) _,YAE w _⟩
 case round=>
  obtain⟨k,hk,rfl,hall,hasc,hnx,hx⟩:=hrel;have hxl:=Zab hx;have g5:=Zaa hx 5;simp at g5;have HALL:=hide hall;have HASC:=hide hasc;have HX:=hide hx;clear hall hasc hx;by_cases hlt:k<x.near.length
  ·obtain ⟨l,hl⟩:∃ l,x.near[k]? = some l:=⟨x.near[k],YAA hlt⟩;obtain⟨b,off,cap',hve,hbb,s0,s1⟩:=HV.out.cells k l hl;cases hve;replace s0:=(hnx.cell hbb).trans s0;replace s1:=(hnx.cell hbb).trans s1;have hzr:=hnx.size;have hbr:b<wr.heap.size:=by omega
   have hki:(0:Int)<=(k:Int):=by omega
   have hkj:(k:Int)<(x.near.length:Int):=by omega
   obtain⟨qt,hqt⟩:∃ q,q=inB l.to 1 6:=⟨_,rfl⟩;obtain⟨qc,hqc⟩:∃ q,q=inB l.c 1 1000:=⟨_,rfl⟩;have hok:Zdb x.owner l=(qt && !(l.to==x.owner)&&qc):=by unfold Zdb;rw [hqt,hqc]
   have HIT:=hide (Zbs l.to 1 6);have HIC:=hide (Zbs l.c 1 1000);rw [<-hqt] at HIT;rw [<-hqc] at HIC;have HAT1:=hide ((Zdd (ok:=Zdb x.owner) hl).trans hok);have HL:=hide hl;clear hqt hqc hok hl;obtain⟨wq,hwq⟩:∃ wq:World,wq=wr.alloc (.cells #[.int .i64 l.to,.int .i64 l.c] 135):=⟨_,rfl⟩;have BW:Below w.heap.size w wq:=by rw [hwq];exact hnx.alloc hnx.size _
   have hb0:wq.heap[wr.heap.size]? = some (.cells #[.int .i64 l.to,.int .i64 l.c] 135):=by rw [hwq];exact YAE wr _
   have hx9:wq.heap[w.heap.size]? = some (.cells #[.int .i64 x.area,.int .i64 x.kind,.int .i64 x.owner,.int .i64 x.key,.int .i64 x.seq,.slice (some ⟨b,off,none⟩) x.near.length c1,.int .i64 x.cost,.bool x.far] 132):=by rw [hwq,YAI _ _ _ hxl];exact HX.out
   go_wp2;rw [<-hwq];have g2:=Zaa hx9 2;have g5:=Zaa hx9 5;have e0:=Zaa hb0 0;have e1:=Zaa hb0 1;simp at g2 g5 e0 e1;have HX9:=hide hx9;obtain⟨z,hz⟩:∃ z,z=wr.heap.size:=⟨_,rfl⟩;rw [<-hz] at e0 e1 |-;clear hb0 hx9 hwq hz s0 s1;cases qt
   ·have hf:Zb2 x.owner x.near=false:=by unfold Zb2 ZcE;rw [Zbk hlt (HAT1.out.trans (by simp))];rfl
    have HF:=hide hf;clear hf;refine Zah (S:=(fun W=>W.cell? ⟨w.heap.size,2,none⟩=some (.int .i64 x.owner)/\W.cell? ⟨w.heap.size,5,none⟩=some (.slice (some ⟨b,off,none⟩) x.near.length c1)/\W.cell? ⟨z,0,none⟩=some (.int .i64 l.to)/\W.cell? ⟨z,1,none⟩=some (.int .i64 l.c))) (by kernel_rfl) 33 rfl ⟨g2,g5,e0,e1⟩ (fun ops hops hHeld=>?_)
    iterate 2 (refine TK 33 ?_;try simp only [putS])
    refine TC 2 ?_;intro K hK;go_simp;refine (HIT.out _).mono ?_;rintro e w1 ⟨rfl,rfl⟩;refine hK.out _ _ hHeld (fun _=>?_);clear hK K
    try simp only [putS]
    iterate 2 (refine TK 33 ?_;try simp only [putS])
    iterate 5 (refine TS 33 ?_;try simp only [putS])
    iterate 2 (refine TK 33 ?_;try simp only [putS])
    iterate 4 (refine TS 33 ?_;try simp only [putS])
    iterate 2 (refine TK 33 ?_;try simp only [putS])
    iterate 14 (refine TS 33 ?_;try simp only [putS])
    refine TK 33 ?_
    try simp only [putS]
    refine wpAnyH_done (by rw [hops.out];kernel_rfl) ?_ _;clear hops ops;go_wp2;go_ret;exact⟨Zao HF.out,BW.drew⟩
   by_cases how:l.to=x.owner
   ·have hoe:(l.to==x.owner)=true:=by simpa using how
    have hf:Zb2 x.owner x.near=false:=by unfold Zb2 ZcE;rw [Zbk hlt (HAT1.out.trans (by simp [hoe]))];rfl
    have HF:=hide hf;clear hf how;refine Zah (S:=(fun W=>W.cell? ⟨w.heap.size,2,none⟩=some (.int .i64 x.owner)/\W.cell? ⟨w.heap.size,5,none⟩=some (.slice (some ⟨b,off,none⟩) x.near.length c1)/\W.cell? ⟨z,0,none⟩=some (.int .i64 l.to)/\W.cell? ⟨z,1,none⟩=some (.int .i64 l.c))) (by kernel_rfl) 33 rfl ⟨g2,g5,e0,e1⟩ (fun ops hops hHeld=>?_)
    iterate 2 (refine TK 33 ?_;try simp only [putS])
    refine TC 2 ?_;intro K hK;go_simp;refine (HIT.out _).mono ?_;rintro e w1 ⟨rfl,rfl⟩;refine hK.out _ _ hHeld (fun _=>?_);clear hK K
    try simp only [putS]
    iterate 6 (refine TK 33 ?_;try simp only [putS])
    refine TK 33 (v:=.bool true) ?_ (hy:=by intro W hW;(try dsimp only at hW);go_simp <;> (first | with_reducible rfl | (simp;omega) | omega))
    try simp only [putS]
    iterate 2 (refine TK 33 ?_;try simp only [putS])
    iterate 4 (refine TS 33 ?_;try simp only [putS])
    iterate 2 (refine TK 33 ?_;try simp only [putS])
    iterate 14 (refine TS 33 ?_;try simp only [putS])
    refine TK 33 ?_
    try simp only [putS]
    refine wpAnyH_done (by rw [hops.out];kernel_rfl) ?_ _;clear hops ops;go_wp2;go_ret;exact⟨Zao HF.out,BW.drew⟩
   have hoe:(l.to==x.owner)=false:=by simpa using how
   have HAT1:Hid (okAt (Zdb x.owner) x.near k=qc):=HAT1.out.trans (by simp [hoe]);clear how;cases qc
   ·have hf:Zb2 x.owner x.near=false:=by unfold Zb2 ZcE;rw [Zbk hlt HAT1.out];rfl
    have HF:=hide hf;clear hf;refine Zah (S:=(fun W=>W.cell? ⟨w.heap.size,2,none⟩=some (.int .i64 x.owner)/\W.cell? ⟨w.heap.size,5,none⟩=some (.slice (some ⟨b,off,none⟩) x.near.length c1)/\W.cell? ⟨z,0,none⟩=some (.int .i64 l.to)/\W.cell? ⟨z,1,none⟩=some (.int .i64 l.c))) (by kernel_rfl) 33 rfl ⟨g2,g5,e0,e1⟩ (fun ops hops hHeld=>?_)
    iterate 2 (refine TK 33 ?_;try simp only [putS])
    refine TC 2 ?_;intro K hK;go_simp;refine (HIT.out _).mono ?_;rintro e w1 ⟨rfl,rfl⟩;refine hK.out _ _ hHeld (fun _=>?_);clear hK K
    try simp only [putS]
    iterate 6 (refine TK 33 ?_;try simp only [putS])
    refine TK 33 (v:=.bool false) ?_ (hy:=by intro W hW;(try dsimp only at hW);go_simp <;> (first | with_reducible rfl | (simp;omega) | omega))
    try simp only [putS]
    iterate 4 (refine TK 33 ?_;try simp only [putS])
    refine TC 14 ?_;intro K hK;go_simp;refine (HIC.out _).mono ?_;rintro e w1 ⟨rfl,rfl⟩;refine hK.out _ _ hHeld (fun _=>?_);clear hK K
    try simp only [putS]
    iterate 3 (refine TK 33 ?_;try simp only [putS])
    iterate 14 (refine TS 33 ?_;try simp only [putS])
    refine TK 33 ?_
    try simp only [putS]
    refine wpAnyH_done (by rw [hops.out];kernel_rfl) ?_ _;clear hops ops;go_wp2;go_ret;exact⟨Zao HF.out,BW.drew⟩
   by_cases hk0:k=0
   ·have hk1:¬(0:Int)<(k:Int):=by omega
    have hat2:Zdp ordN x.near k=true:=by rw [hk0];rfl
    have HAT2:=hide hat2;clear hat2 hk0;refine Zah (S:=(fun W=>W.cell? ⟨w.heap.size,2,none⟩=some (.int .i64 x.owner)/\W.cell? ⟨w.heap.size,5,none⟩=some (.slice (some ⟨b,off,none⟩) x.near.length c1)/\W.cell? ⟨z,0,none⟩=some (.int .i64 l.to)/\W.cell? ⟨z,1,none⟩=some (.int .i64 l.c))) (by kernel_rfl) 33 rfl ⟨g2,g5,e0,e1⟩ (fun ops hops hHeld=>?_)
    iterate 2 (refine TK 33 ?_;try simp only [putS])
    refine TC 2 ?_;intro K hK;go_simp;refine (HIT.out _).mono ?_;rintro e w1 ⟨rfl,rfl⟩;refine hK.out _ _ hHeld (fun _=>?_);clear hK K
    try simp only [putS]
    iterate 6 (refine TK 33 ?_;try simp only [putS])
    refine TK 33 (v:=.bool false) ?_ (hy:=by intro W hW;(try dsimp only at hW);go_simp <;> (first | with_reducible rfl | (simp;omega) | omega))
    try simp only [putS]
    iterate 4 (refine TK 33 ?_;try simp only [putS])
    refine TC 14 ?_;intro K hK;go_simp;refine (HIC.out _).mono ?_;rintro e w1 ⟨rfl,rfl⟩;refine hK.out _ _ hHeld (fun _=>?_);clear hK K
    try simp only [putS]
    iterate 4 (refine TK 33 ?_;try simp only [putS])
    refine TK 33 (v:=.bool false) ?_ (hy:=by intro W hW;(try dsimp only at hW);go_simp <;> (first | with_reducible rfl | (simp;omega) | omega))
    try simp only [putS]
    refine TK 33 ?_
    try simp only [putS]
    iterate 10 (refine TS 33 ?_;try simp only [putS])
    iterate 2 (refine TK 33 ?_;try simp only [putS])
    refine wpAnyH_done (by rw [hops.out];kernel_rfl) ?_ _;clear hops ops;go_wp2;exact⟨⟨k+1,by omega,by go_num,ZaS HALL.out HAT1.out,ZaS HASC.out HAT2.out,BW.drew,HX9.out⟩,by simp [intOf];omega⟩
   ·obtain ⟨j,hj⟩:∃ j,k=j+1:=⟨k-1,by omega⟩;obtain⟨p,hp⟩:∃ p,x.near[j]? = some p:=⟨x.near[j],YAA (by omega)⟩;obtain⟨b',off',cap2,hve2,hbb2,t0,t1⟩:=HV.out.cells j p hp;cases hve2;replace t0:=(BW.cell hbb).trans t0;have hat2:Zdp ordN x.near k=decide (p.to-l.to<0):=by rw [hj];exact Zc3 hp (by rw [<-hj];exact HL.out)
    have HAT2:=hide hat2;have hj1:(k:Int)-1=(j:Int):=by omega
    have hj2:(0:Int)<=(j:Int):=by omega
    have hj3:(j:Int)<(x.near.length:Int):=by omega
    have hj4:(0:Int)<(k:Int):=by omega
    have hj5:IntKind.i64.wrap (j:Int)=(j:Int):=ZbF _ (by omega) (by omega);clear hp hat2 hj hk0 hbb2 t1;by_cases hpl:p.to<l.to
    ·have hd:decide (p.to-l.to<0)=true:=YAi (by omega);have HAT3:Hid (Zdp ordN x.near k=true):=HAT2.out.trans hd;have hpl2:¬l.to<=p.to:=by omega
     clear hd HAT2;refine Zah (S:=(fun W=>W.cell? ⟨w.heap.size,2,none⟩=some (.int .i64 x.owner)/\W.cell? ⟨w.heap.size,5,none⟩=some (.slice (some ⟨b,off,none⟩) x.near.length c1)/\W.cell? ⟨z,0,none⟩=some (.int .i64 l.to)/\W.cell? ⟨z,1,none⟩=some (.int .i64 l.c)/\W.cell? ⟨b,off+j*2,none⟩=some (.int .i64 p.to))) (by kernel_rfl) 33 rfl ⟨g2,g5,e0,e1,t0⟩ (fun ops hops hHeld=>?_)
     iterate 2 (refine TK 33 ?_;try simp only [putS])
     refine TC 2 ?_;intro K hK;go_simp;refine (HIT.out _).mono ?_;rintro e w1 ⟨rfl,rfl⟩;refine hK.out _ _ hHeld (fun _=>?_);clear hK K
     try simp only [putS]
     iterate 6 (refine TK 33 ?_;try simp only [putS])
     refine TK 33 (v:=.bool false) ?_ (hy:=by intro W hW;(try dsimp only at hW);go_simp <;> (first | with_reducible rfl | (simp;omega) | omega))
     try simp only [putS]
     iterate 4 (refine TK 33 ?_;try simp only [putS])
     refine TC 14 ?_;intro K hK;go_simp;refine (HIC.out _).mono ?_;rintro e w1 ⟨rfl,rfl⟩;refine hK.out _ _ hHeld (fun _=>?_);clear hK K
     try simp only [putS]
     iterate 4 (refine TK 33 ?_;try simp only [putS])
     refine TK 33 (v:=.bool true) ?_ (hy:=by intro W hW;(try dsimp only at hW);go_simp <;> (first | with_reducible rfl | (simp;omega) | omega))
     try simp only [putS]
     iterate 13 (refine TK 33 ?_;try simp only [putS])
     refine wpAnyH_done (by rw [hops.out];kernel_rfl) ?_ _;clear hops ops;go_wp2;exact⟨⟨k+1,by omega,by go_num,ZaS HALL.out HAT1.out,ZaS HASC.out HAT3.out,BW.drew,HX9.out⟩,by simp [intOf];omega⟩
    ·have hd:decide (p.to-l.to<0)=false:=YAo (by omega);have hf:Zb2 x.owner x.near=false:=by unfold Zb2 ascB;rw [Zbk hlt (HAT2.out.trans hd)];simp
     have HF:=hide hf;have hpl2:l.to<=p.to:=by omega
     clear hd hf HAT2;refine Zah (S:=(fun W=>W.cell? ⟨w.heap.size,2,none⟩=some (.int .i64 x.owner)/\W.cell? ⟨w.heap.size,5,none⟩=some (.slice (some ⟨b,off,none⟩) x.near.length c1)/\W.cell? ⟨z,0,none⟩=some (.int .i64 l.to)/\W.cell? ⟨z,1,none⟩=some (.int .i64 l.c)/\W.cell? ⟨b,off+j*2,none⟩=some (.int .i64 p.to))) (by kernel_rfl) 33 rfl ⟨g2,g5,e0,e1,t0⟩ (fun ops hops hHeld=>?_)
     iterate 2 (refine TK 33 ?_;try simp only [putS])
     refine TC 2 ?_;intro K hK;go_simp;refine (HIT.out _).mono ?_;rintro e w1 ⟨rfl,rfl⟩;refine hK.out _ _ hHeld (fun _=>?_);clear hK K
     try simp only [putS]
     iterate 6 (refine TK 33 ?_;try simp only [putS])
     refine TK 33 (v:=.bool false) ?_ (hy:=by intro W hW;(try dsimp only at hW);go_simp <;> (first | with_reducible rfl | (simp;omega) | omega))
     try simp only [putS]
     iterate 4 (refine TK 33 ?_;try simp only [putS])
     refine TC 14 ?_;intro K hK;go_simp;refine (HIC.out _).mono ?_;rintro e w1 ⟨rfl,rfl⟩;refine hK.out _ _ hHeld (fun _=>?_);clear hK K
     try simp only [putS]
     iterate 4 (refine TK 33 ?_;try simp only [putS])
     refine TK 33 (v:=.bool true) ?_ (hy:=by intro W hW;(try dsimp only at hW);go_simp <;> (first | with_reducible rfl | (simp;omega) | omega))
     try simp only [putS]
     iterate 13 (refine TK 33 ?_;try simp only [putS])
     refine wpAnyH_done (by rw [hops.out];kernel_rfl) ?_ _;clear hops ops;go_wp2;go_ret;exact⟨Zao HF.out,BW.drew⟩
  ·have hfin:Zb2 x.owner x.near=true:=by
    have e1:ZcE (Zdb x.owner) x.near=true:=Zbr fun i hi=>HALL.out i (by omega);have e2:ascB ordN x.near=true:=Zbr fun i hi=>HASC.out i (by omega);unfold Zb2;rw [e1,e2];rfl
   have HFIN:=hide hfin;clear hfin;go_wp2;go_ret;exact⟨Zao HFIN.out,hnx⟩


def ZbQ (x y:WayD):Bool:=decide (x.cost<y.cost)
theorem Zgc (u1 u2:Value)(x y:WayD)(w:World):Calls Tryz.prog 122 #[.agg (wayC x u1),.agg (wayC y u2)] w fun e w'=>e=.returned (.bool (ZbQ x y))/\Below w.heap.size w w':=by
 unfold wayC ZbQ
 go_enter Tryz.func122,Tryz.ntmps122
 go_wp2;go_ret;exact⟨rfl,ZaK _ _⟩
def orN:List Int->Int
 | []=>0
 | x::xs=>if x=0 then orN xs else x
theorem ZhC :∀ (k:Nat)(l:List Int),(∀ j,j<k->l.getD j 0=0)->orN l=orN (l.drop k)
 | 0,l,_=>by simp
 | k+1,[],_=>by simp
 | k+1,x::xs,h=>by
  have h0:x=0:=by simpa using h 0 (by omega)
  subst h0;have e:orN (0::xs)=orN xs:=by simp [orN]
  rw [e,List.drop_succ_cons];exact ZhC k xs (fun j hj=>by simpa using h (j+1) (by omega))
theorem orN_at (h:∀ j,j<k->l.getD j 0=0)(hk:k<l.length)(hx:l.getD k 0≠0):orN l=l.getD k 0:=by
 rw [ZhC k l h,YAp hk];have e:l.getD k 0=l[k]:=by simp [YAA hk]
 rw [e] at hx |-;simp only [orN];rw [if_neg hx]
theorem Znm (h:∀ j,j<k->l.getD j 0=0)(hk:k=l.length):orN l=0:=by
 rw [ZhC k l h,List.drop_of_length_le (by omega)];rfl
theorem or_any (b n:Nat)(l:List Int)(w:World)(hn:n=l.length)(hs:l.length<=1000)(hc:∀ j,j<l.length->w.cell? ⟨b,j,none⟩=some (.int .i64 (l.getD j 0))):
  Calls Tryz.prog 40 #[.slice (some ⟨b,0,none⟩) n n] w fun e w'=>e=.returned (.int .i64 (orN l))/\w=w':=by
 subst hn;have HC:=hide hc;clear hc
 go_enter Tryz.func40,Tryz.ntmps40
 go_wp2
 go_loopw [8] (fun i wr=>∃ k:Nat,k<=l.length/\i=.int .i64 k/\(∀ j,j<k->l.getD j 0=0)/\w=wr) (fun i _=>l.length-(intOf i).toNat)
 case atStart=>exact ⟨0,by omega,rfl,by omega,rfl⟩
 case round=>
  obtain⟨k,hk,rfl,hno,rfl⟩:=hrel;have HNO:=hide hno;clear hno;by_cases hlt:k<l.length
  ·have hcell:=HC.out k hlt;by_cases h0:l.getD k 0=0
   ·have hnx:∀ j,j<k+1->l.getD j 0=0:=fun j hj=>by
     by_cases e:j=k
     ·subst e;exact h0
     ·exact HNO.out j (by omega)
    rw [h0] at hcell;have HN:=hide hnx;clear h0 hnx;go_wp2;go_roundw
    case rel=>exact ⟨k+1,by omega,by go_num,HN.out,trivial⟩
    case measure=>simp [intOf];omega
   ·obtain ⟨y,hy⟩:∃ y,y=l.getD k 0:=⟨_,rfl⟩;rw [<-hy] at hcell h0;have hor:orN l=y:=by rw [hy];exact orN_at HNO.out hlt (by rw [<-hy];exact h0)
    have HO:=hide hor;clear hy hor;go_wp2;go_ret;exact⟨Zov HO.out,rfl⟩
  ·have hk':k=l.length:=by omega
   have HK:=hide hk';clear hk';go_wp2;go_ret;exact⟨Zov (Znm HNO.out HK.out),rfl⟩
theorem Zn3 (b:Nat)(x y:Int)(w:World)(h0:w.cell? ⟨b,0,none⟩=some (.int .i64 x))(h1:w.cell? ⟨b,1,none⟩=some (.int .i64 y)):
  Calls Tryz.prog 40 #[.slice (some ⟨b,0,none⟩) 2 2] w fun e w'=>e=.returned (.int .i64 (orN [x,y]))/\w=w':=
 or_any b 2 [x,y] w rfl (by simp) (fun j hj=>by
  match j,hj with
  | 0,_=>exact h0
  | 1,_=>exact h1
  | j+2,hj=>exact absurd hj (by simp only [YAd,List.length_nil];omega))
def ordL (l m:Lk):Int:=orN [cmpN l.a m.a,cmpN l.b m.b,cmpN l.r m.r]
def ordT (l m:Th):Int:=orN [cmpN l.k m.k,cmpN l.o m.o]
structure RtD where
 thing:Bool
 to:Int
 kind:Int
 cost:Int
 far:Int
 hops:List Int
 deriving DecidableEq
def rtC (x:RtD)(v:Value):Array Value:=#[.bool x.thing,.int .i64 x.to,.int .i64 x.kind,.int .i64 x.cost,.int .i64 x.far,v]
def RtAt (W:World)(v:Value)(x:RtD)(B:Nat):Prop:=∃ v1,v=.agg (rtC x v1)/\Zal W v1 x.hops B
theorem RtAt.then {x:RtD}(h:RtAt W v x W.heap.size)(hb:Below W.heap.size W W'):RtAt W' v x W'.heap.size:=by
 obtain⟨v1,hv,h1⟩:=h;exact⟨v1,hv,h1.then hb⟩
structure LnD where
 thing:Bool
 to:Int
 hops:List Int
 deriving DecidableEq
def lnC (x:LnD)(v:Value):Array Value:=#[.bool x.thing,.int .i64 x.to,v]
def LnAt (W:World)(v:Value)(x:LnD)(B:Nat):Prop:=∃ v1,v=.agg (lnC x v1)/\Zal W v1 x.hops B
theorem LnAt.then {x:LnD}(h:LnAt W v x W.heap.size)(hb:Below W.heap.size W W'):LnAt W' v x W'.heap.size:=by
 obtain⟨v1,hv,h1⟩:=h;exact⟨v1,hv,h1.then hb⟩
end Go.Proofs.YtdhnddfnckgbjaaGreat
