/-
  HeapMath HeapK Meth HeapU HeapP
-/
import Derived.Test.YtnndlmodjkplnaaGreatDoorFw1
import Derived.Test.YtnndlmodjkplnaaGreatDoorFw15
import Derived.Test.YtnndlmodjkplnaaGreatDoorFw3
import Derived.Test.YtnndlmodjkplnaaGreatDoorFw7
import Derived.Handy
namespace Go.Proofs.YtnndlmodjkplnaaGreatDoor

def par (i:Nat):Nat:=(i-1) / 2

def Zcc (q:Nat->Nat)(i j x:Nat):Nat:=if x=i then q j else if x=j then q i else q x

def ZcI (c:Nat->Int)(q:Nat->Nat)(n:Nat):Prop:=∀ i,0<i->i<n->c (q (par i))<=c (q i)

structure UpInv (c:Nat->Int) (q:Nat->Nat) (n j:Nat):Prop where
 all:∀ i,0<i->i<n->i≠j->c (q (par i))<=c (q i)
 kids:∀ i,0<i->i<n->par i=j->0<j->c (q (par j))<=c (q i)

structure DownInv (c:Nat->Int) (q:Nat->Nat) (n i:Nat):Prop where
 all:∀ k,0<k->k<n->par k≠i->c (q (par k))<=c (q k)
 kids:∀ k,0<k->k<n->par k=i->0<i->c (q (par i))<=c (q k)

theorem Zdg {i:Nat}(h:0<i):par i<i:=by unfold par;omega

theorem Zod {c:Nat->Int}{q:Nat->Nat}{n j:Nat}(h:UpInv c q n j)(hs:j=0\/¬c (q j)<c (q (par j))):ZcI c q n:=by
 intro i h0 hn;by_cases e:i=j
 ·subst e
  rcases hs with hs | hs
  ·omega
  ·omega
 ·exact h.all i h0 hn e

theorem ZpX {c:Nat->Int}{q:Nat->Nat}{n j:Nat}(h:UpInv c q n j)(hj:0<j)(hn:j<n)(hlt:c (q j)<c (q (par j))):UpInv c (Zcc q (par j) j) n (par j):=by
 have hp:=Zdg hj;obtain⟨p,hpe⟩:∃ p,p=par j:=⟨_,rfl⟩;rw [<-hpe] at hlt hp |-
 constructor
 ·intro i h0 hi hne
  have hpi:=Zdg h0;unfold Zcc;by_cases e1:i=j
  ·subst e1
   rw [if_neg (by omega:¬i=p),if_pos rfl,if_pos hpe.symm]
   omega
  ·rw [if_neg hne,if_neg e1]
   have h1:=h.all i h0 hi e1;by_cases e2:par i=p
   ·rw [if_pos e2]
    rw [e2] at h1;omega
   ·rw [if_neg e2]
    by_cases e3:par i=j
    ·rw [if_pos e3]
     have:=h.kids i h0 hi e3 hj;rw [<-hpe] at this;exact this
    ·rw [if_neg e3];exact h1
 ·intro i h0 hi hpar hp0
  have hpi:=Zdg h0;have hpp:=Zdg hp0;have hA:=h.all p hp0 (by omega) (by omega)
  unfold Zcc;rw [if_neg (by omega:¬par p=p),if_neg (by omega:¬par p=j)]
  by_cases e1:i=j
  ·rw [if_neg (by omega:¬i=p),if_pos e1];exact hA
  ·rw [if_neg (by omega:¬i=p),if_neg e1]
   have:=h.all i h0 hi e1;rw [hpar] at this;omega

theorem ZeF {c:Nat->Int}{q:Nat->Nat}{n i:Nat}(h:DownInv c q n i)(hs:∀ k,0<k->k<n->par k=i->c (q i)<=c (q k)):ZcI c q n:=by
 intro k h0 hn;by_cases e:par k=i
 ·rw [e];exact hs k h0 hn e
 ·exact h.all k h0 hn e

theorem Zk3 {k i:Nat}(h0:0<k)(h:par k=i):k=2*i+1\/k=2*i+2:=by unfold par at h;omega

theorem ZfZ {c:Nat->Int}{q:Nat->Nat}{n i j:Nat}(h:DownInv c q n i)(hj:0<j)(hn:j<n)(hp:par j=i)(hlt:c (q j)<c (q i))(hmin:∀ k,0<k->k<n->par k=i->c (q j)<=c (q k)):DownInv c (Zcc q i j) n j:=by
 have hij:=Zdg hj;rw [hp] at hij
 constructor
 ·intro k h0 hk hne
  have hpk:=Zdg h0;unfold Zcc;by_cases e1:k=i
  ·subst e1
   rw [if_pos rfl,if_neg (by omega:¬par k=k),if_neg hne]
   exact h.kids j hj hn hp h0
  ·rw [if_neg e1]
   by_cases e2:k=j
   ·subst e2
    rw [if_pos rfl,if_pos hp];omega
   ·rw [if_neg e2]
    by_cases e3:par k=i
    ·rw [if_pos e3];exact hmin k h0 hk e3
    ·rw [if_neg e3,if_neg hne];exact h.all k h0 hk e3
 ·intro k h0 hk hpk hj0
  have hpk2:=Zdg h0;unfold Zcc;rw [hp,if_pos rfl,if_neg (by omega:¬k=i),if_neg (by omega:¬k=j)]
  have:=h.all k h0 hk (by omega)
  rw [hpk] at this;exact this

theorem ZiS {c:Nat->Int}{q:Nat->Nat}{n:Nat}(h:ZcI c q n):∀ (m i:Nat),i<=m->i<n->c (q 0)<=c (q i)
 | 0,i,hm,_=>by rw [show i=0 by omega];exact Int.le_refl _
 | m+1,i,hm,hn=>by
  by_cases e:i=0
  ·rw [e];exact Int.le_refl _
  ·have h1:=h i (by omega) hn
   have h2:=Zdg (i:=i) (by omega)
   have h3:=ZiS h m (par i) (by omega) (by omega)
   omega

structure Shuf (q q':Nat->Nat) (n:Nat):Prop where
 into:∀ i,i<n->∃ j,j<n/\q' i=q j
 onto:∀ j,j<n->∃ i,i<n/\q' i=q j
 inj:(∀ i j,i<n->j<n->q i=q j->i=j)->(∀ i j,i<n->j<n->q' i=q' j->i=j)
 rest:∀ x,n<=x->q' x=q x

theorem Shuf.refl (q:Nat->Nat)(n:Nat):Shuf q q n:=⟨fun i h=>⟨i,h,rfl⟩,fun j h=>⟨j,h,rfl⟩,fun h=>h,fun _ _=>rfl⟩

theorem Shuf.trans {q q' q'':Nat->Nat}{n:Nat}(a:Shuf q q' n)(b:Shuf q' q'' n):Shuf q q'' n:=by
 refine⟨fun i h=>?_,fun j h=>?_,fun h=>b.inj (a.inj h),fun x hx=>(b.rest x hx).trans (a.rest x hx)⟩
 ·obtain ⟨j,hj,e⟩:=b.into i h
  obtain⟨k,hk,e2⟩:=a.into j hj;exact⟨k,hk,e.trans e2⟩
 ·obtain ⟨i,hi,e⟩:=a.onto j h
  obtain⟨k,hk,e2⟩:=b.onto i hi;exact⟨k,hk,e2.trans e⟩

theorem Zb4 (q:Nat->Nat)(i j x:Nat):(x=i/\Zcc q i j x=q j)\/(x=j/\Zcc q i j x=q i)\/(x≠i/\x≠j/\Zcc q i j x=q x):=by
 unfold Zcc;by_cases e:x=i
 ·exact .inl ⟨e,if_pos e⟩
 ·rw [if_neg e]
  by_cases e2:x=j
  ·exact .inr (.inl ⟨e2,if_pos e2⟩)
  ·exact .inr (.inr ⟨e,e2,if_neg e2⟩)

theorem Shuf.swap (q:Nat->Nat){n i j:Nat}(hi:i<n)(hj:j<n):Shuf q (Zcc q i j) n:=by
 refine⟨fun x hx=>?_,fun x hx=>?_,fun h x y hx hy e=>?_,fun x hx=>?_⟩
 ·rcases Zb4 q i j x with ⟨_,e⟩ | ⟨_,e⟩ | ⟨_,_,e⟩
  ·exact ⟨j,hj,e⟩
  ·exact ⟨i,hi,e⟩
  ·exact ⟨x,hx,e⟩
 ·by_cases e1:x=i
  ·refine ⟨j,hj,?_⟩
   subst e1
   rcases Zb4 q x j j with ⟨e2,e⟩ | ⟨_,e⟩ | ⟨_,e2,_⟩
   ·rw [e,e2]
   ·exact e
   ·exact absurd rfl e2
  ·by_cases e3:x=j
   ·refine ⟨i,hi,?_⟩
    subst e3
    rcases Zb4 q i x i with ⟨_,e⟩ | ⟨e2,e⟩ | ⟨e2,_,_⟩
    ·exact e
    ·rw [e,e2]
    ·exact absurd rfl e2
   ·refine ⟨x,hx,?_⟩
    unfold Zcc;rw [if_neg e1,if_neg e3]
 ·rcases Zb4 q i j x with ⟨a1,a2⟩ | ⟨a1,a2⟩ | ⟨a1,a3,a2⟩ <;> rcases Zb4 q i j y with ⟨b1,b2⟩ | ⟨b1,b2⟩ | ⟨b1,b3,b2⟩ <;> rw [a2,b2] at e
  ·omega
  ·have:=h _ _ hj hi e;omega
  ·have:=h _ _ hj hy e;omega
  ·have:=h _ _ hi hj e;omega
  ·omega
  ·have:=h _ _ hi hy e;omega
  ·have:=h _ _ hx hj e;omega
  ·have:=h _ _ hx hi e;omega
  ·exact h _ _ hx hy e
 ·rcases Zb4 q i j x with ⟨a1,_⟩ | ⟨a1,_⟩ | ⟨_,_,e⟩
  ·omega
  ·omega
  ·exact e

theorem Shuf.more {q q':Nat->Nat}{n m:Nat}(a:Shuf q q' n)(h:n<=m):Shuf q q' m:=by
 refine⟨fun i hi=>?_,fun j hj=>?_,fun hinj x y hx hy e=>?_,fun x hx=>a.rest x (by omega)⟩
 ·by_cases e:i<n
  ·obtain ⟨j,hj,e2⟩:=a.into i e;exact⟨j,by omega,e2⟩
  ·exact ⟨i,hi,a.rest i (by omega)⟩
 ·by_cases e:j<n
  ·obtain ⟨i,hi,e2⟩:=a.onto j e;exact⟨i,by omega,e2⟩
  ·exact ⟨j,hj,a.rest j (by omega)⟩
 ·by_cases e1:x<n <;> by_cases e2:y<n
  ·exact a.inj (fun i j hi hj=>hinj i j (by omega) (by omega)) x y e1 e2 e
  ·obtain ⟨j,hj,e3⟩:=a.into x e1
   rw [e3,a.rest y (by omega)] at e
   have:=hinj j y (by omega) hy e;omega
  ·obtain ⟨j,hj,e3⟩:=a.into y e2
   rw [e3,a.rest x (by omega)] at e
   have:=hinj x j hx (by omega) e;omega
  ·rw [a.rest x (by omega),a.rest y (by omega)] at e
   exact hinj x y hx hy e

theorem ZpN {c:Nat->Int}{q:Nat->Nat}{n k:Nat}(h:ZcI c q n):UpInv c (fun x=>if x=n then k else q x) (n+1) n:=by
 constructor
 ·intro i h0 hi hne
  have:=Zdg h0;rw [if_neg (by omega:¬par i=n),if_neg hne]
  exact h i h0 (by omega)
 ·intro i h0 hi hp _
  have:=Zdg h0;omega

theorem Zo6 {c:Nat->Int}{q:Nat->Nat}{n:Nat}(h:ZcI c q (n+1)):DownInv c (Zcc q 0 n) n 0:=by
 constructor
 ·intro k h0 hk hne
  have:=Zdg h0;unfold Zcc;rw [if_neg hne,if_neg (by omega:¬par k=n),if_neg (by omega:¬k=0),if_neg (by omega:¬k=n)]
  exact h k h0 (by omega)
 ·intro k _ _ _ h0
  omega
end Go.Proofs.YtnndlmodjkplnaaGreatDoor
namespace Go.Proofs.YtnndlmodjkplnaaGreatDoor
open Go.RowKit
set_option linter.unusedSimpArgs false
set_option linter.unusedVariables false
set_option maxRecDepth 100000
set_option maxHeartbeats 8000000
def ptrV (k:Nat):Value:=.pointer (some ⟨k,0,none⟩)
def ptrs (q:Nat->Nat)(n:Nat):List Value:=(List.range n).map (fun i=>ptrV (q i))
theorem Zep {q:Nat->Nat}{n i:Nat}(h:i<n):(ptrs q n)[i]? = some (ptrV (q i)):=by simp [ptrs,h]
theorem ZfM (q:Nat->Nat)(n:Nat):(ptrs q n).length=n:=by simp [ptrs]
structure HQ (W:World) (lo:Nat) (u:Value) (n:Nat) (q:Nat->Nat) (wd:Nat->WayD) (wv:Nat->Value):Prop where
 row:W.ownsRow lo 208 1 u n (ptrs q n)
 way:∀ i,i<n->W.heap[q i]? = some (.cells (wayC (wd (q i)) (wv (q i))) 104)
 sl:∀ i,i<n->∃ a l c,wv (q i)=.slice a l c
theorem HQ.cell {W:World}{lo n:Nat}{u:Value}{q:Nat->Nat}{wd:Nat->WayD}{wv:Nat->Value}(h:HQ W lo u n q wd wv){i:Nat}(hi:i<n):∃ g cap,u=.slice (some ⟨g,0,none⟩) n cap/\W.cell? ⟨g,i,none⟩=some (ptrV (q i))/\g<W.heap.size:=by
 rcases h.row.2 with ⟨_,e⟩ | ⟨g,cap,cur,hv,_⟩
 ·omega
 ·refine ⟨g,cap,hv,?_,(h.row.lt g (by rw [hv];rfl)).2⟩
  have:=World.ownsRow.cellAt (by rw [<-hv];exact h.row) i (by omega)
  rw [this,Zep hi]
theorem HQ.below {W W':World}{lo n:Nat}{u:Value}{q:Nat->Nat}{wd:Nat->WayD}{wv:Nat->Value}(h:HQ W lo u n q wd wv)(hb:Below W.heap.size W W'):HQ W' lo u n q wd wv:=
 ⟨Zaf h.row hb (Nat.le_refl _),fun i hi=>(hb.block _ (Zab (h.way i hi))).trans (h.way i hi),h.sl⟩
theorem ZeJ (W:World)(lo n:Nat)(u:Value)(q:Nat->Nat)(wd:Nat->WayD)(wv:Nat->Value)(i j:Nat)(h:HQ W lo u n q wd wv)(hi:i<n)(hj:j<n):
  Calls Tryz.prog 265 #[u,.int .i64 (i:Int),.int .i64 (j:Int)] W fun e W'=>e=.returned (.bool (decide ((wd (q i)).cost<(wd (q j)).cost)))/\Below W.heap.size W W':=by
 obtain⟨g,cap,rfl,ci,hg⟩:=h.cell hi;obtain⟨g2,cap2,e2,cj,_⟩:=h.cell hj;cases e2
 obtain⟨ai,li,ci2,ei⟩:=h.sl i hi;obtain⟨aj,lj,cj2,ej⟩:=h.sl j hj;have wi:=h.way i hi;have wj:=h.way j hj;rw [ei] at wi;rw [ej] at wj;obtain⟨x,hx⟩:∃ x,x=wd (q i):=⟨_,rfl⟩;obtain⟨y,hy⟩:∃ y,y=wd (q j):=⟨_,rfl⟩;obtain⟨p,hp⟩:∃ p,p=q i:=⟨_,rfl⟩;obtain⟨r,hr⟩:∃ r,r=q j:=⟨_,rfl⟩;rw [<-hx] at wi |-;rw [<-hy] at wj |-;rw [<-hp] at ci wi;rw [<-hr] at cj wj;unfold ptrV at ci cj;have a0:=Zaa wi 0;have a1:=Zaa wi 1;have a2:=Zaa wi 2;have b0:=Zaa wj 0;have b1:=Zaa wj 1;have b2:=Zaa wj 2;simp [wayC] at a0 a1 a2 b0 b1 b2
 have hBt:=hide (fun W=>Zci (.slice ai li ci2) (.slice aj lj cj2) x y W)
 unfold wayC Zbg at hBt;have h1:(0:Int)<=(i:Int):=by omega
 have h2:(i:Int)<(n:Int):=by omega
 have h3:(0:Int)<=(j:Int):=by omega
 have h4:(j:Int)<(n:Int):=by omega
 have lp:=Zab wi;have lr:=Zab wj;clear h hx hy hp hr wi wj ei ej
 go_enter Tryz.func265,Tryz.ntmps265
 go_wp2
 go_region_held3 (fun V=>V.cell? ⟨g,i,none⟩=some (.pointer (some ⟨p,0,none⟩))/\V.cell? ⟨g,j,none⟩=some (.pointer (some ⟨r,0,none⟩))/\V.cell? ⟨p,0,none⟩=some (.int .i64 x.to)/\V.cell? ⟨p,1,none⟩=some (.int .i64 x.cost)/\V.cell? ⟨p,2,none⟩=some (.slice ai li ci2)/\V.cell? ⟨r,0,none⟩=some (.int .i64 y.to)/\V.cell? ⟨r,1,none⟩=some (.int .i64 y.cost)/\V.cell? ⟨r,2,none⟩=some (.slice aj lj cj2)) (first | (refine ⟨?_,?_,?_,?_,?_,?_,?_,?_⟩ <;> (refine Eq.trans (Below.cell (B:=W.heap.size) (w:=W.drew) hbb ?_) ?_ <;> assumption)) | go_keep) (first | (go_at_call 172;refine (hBt.out _).mono ?_;rintro e w2 ⟨rfl,hbb⟩))
 go_wp2
 go_ret
 exact⟨rfl,((Below.refl W.heap.size W).drew).trans hbb⟩
theorem ZhV (W:World)(a:Option Addr)(n cap:Nat):Calls Tryz.prog 174 #[.slice a n cap] W fun e W'=>e=.returned (.int .i64 (n:Int))/\W=W':=by
 go_enter Tryz.func174,Tryz.ntmps174
 go_wp2
 go_ret
 exact⟨rfl,rfl⟩
theorem Zh9 {W:World}{lo n g cap i:Nat}{e:TypeId}{q:Nat->Nat}(h:W.ownsRow lo e 1 (.slice (some ⟨g,0,none⟩) n cap) n (ptrs q n))(hi:i<n)(k:Nat):(W.setCell ⟨g,i,none⟩ (ptrV k)).ownsRow lo e 1 (.slice (some ⟨g,0,none⟩) n cap) n (ptrs (fun x=>if x=i then k else q x) n):=by
 rcases h.2 with ⟨e1,_⟩ | ⟨g',cap',cur,hv,hg,hh,hnc,hcm,hcs,htk⟩
 ·cases e1
 ·cases hv
  refine⟨by rw [ZfM];omega,.inr ⟨g,cap,cur.setIfInBounds i (ptrV k),rfl,hg,heap_setCell_same W g i _ _ _ hh,hnc,hcm,by simpa using hcs,?_⟩⟩
  have e2:(cur.setIfInBounds i (ptrV k)).toList=cur.toList.set i (ptrV k):=by simp
  rw [e2,List.take_set];have e3:cur.toList.take (n*1)=ptrs q n:=htk;rw [Nat.mul_one] at e3 |-;rw [e3]
  apply List.ext_getElem?
  intro x;rw [List.getElem?_set];by_cases hx:x<n
  ·rw [Zep hx]
   by_cases e4:i=x
   ·subst e4
    rw [if_pos rfl,if_pos (by rw [ZfM];exact hi),Zep hi,if_pos rfl]
   ·rw [if_neg e4,Zep hx,if_neg (fun e=>e4 e.symm)]
  ·rw [List.getElem?_eq_none (by rw [ZfM];omega),if_neg (by omega),List.getElem?_eq_none (by rw [ZfM];omega)]
theorem ZeY (W:World)(lo n:Nat)(u:Value)(q:Nat->Nat)(i j:Nat)(h:W.ownsRow lo 208 1 u n (ptrs q n))(hi:i<n)(hj:j<n):
  Calls Tryz.prog 266 #[u,.int .i64 (i:Int),.int .i64 (j:Int)] W fun e W'=>e=.returned (.tuple #[])/\W'.ownsRow lo 208 1 u n (ptrs (Zcc q i j) n)/\W.grownBy W' u.ownBlock:=by
 rcases h.2 with ⟨_,e⟩ | ⟨g,cap,cur,hv,hg,hh,_⟩
 ·omega
 subst hv;have ci:=(World.ownsRow.cellAt h i (by omega)).trans (Zep hi)
 have cj:=(World.ownsRow.cellAt h j (by omega)).trans (Zep hj)
 have fz:=Zae hh;obtain⟨p,hp⟩:∃ p,p=q i:=⟨_,rfl⟩;obtain⟨r,hr⟩:∃ r,r=q j:=⟨_,rfl⟩;rw [<-hp] at ci;rw [<-hr] at cj;unfold ptrV at ci cj;have h1:(0:Int)<=(i:Int):=by omega
 have h2:(i:Int)<(n:Int):=by omega
 have h3:(0:Int)<=(j:Int):=by omega
 have h4:(j:Int)<(n:Int):=by omega
 obtain⟨y,hy⟩:∃ y,(W.setCell ⟨g,i,none⟩ (.pointer (some ⟨r,0,none⟩))).cell? ⟨g,j,none⟩=some y:=by
  have o1:=Zh9 h hi r;exact⟨_,(World.ownsRow.cellAt o1 j (by omega)).trans (Zep hj)⟩
 have HP:=hide hp;have HR:=hide hr;have HH:=hide h;have HO:=hide (show ((W.setCell ⟨g,i,none⟩ (.pointer (some ⟨r,0,none⟩))).setCell ⟨g,j,none⟩ (.pointer (some ⟨p,0,none⟩))).ownsRow lo 208 1 (.slice (some ⟨g,0,none⟩) n cap) n (ptrs (Zcc q i j) n) by
  have o2:=Zh9 (Zh9 h hi r) hj p;have e:(fun x=>if x=j then p else if x=i then r else q x)=Zcc q i j:=by
   funext x
   unfold Zcc;by_cases e1:x=j
   ·rw [if_pos e1]
    by_cases e2:x=i
    ·rw [if_pos e2,hp, <-e2,e1]
    ·rw [if_neg e2,if_pos e1,hp]
   ·rw [if_neg e1]
    by_cases e2:x=i
    ·rw [if_pos e2,if_pos e2,hr]
    ·rw [if_neg e2,if_neg e2,if_neg e1]
  rw [e] at o2;exact o2)
 have HG:=hide (show W.grownBy ((W.setCell ⟨g,i,none⟩ (.pointer (some ⟨r,0,none⟩))).setCell ⟨g,j,none⟩ (.pointer (some ⟨p,0,none⟩))) (some g) from Zai (Zaj W g _ _) (Zaj _ g _ _))
 clear hh hp hr h
 go_enter Tryz.func266,Tryz.ntmps266
 go_wp2
 go_region
 go_wp2
 go_returns
 exact⟨rfl,HO.out.drew,⟨HG.out.os,HG.out.tape,HG.out.output,HG.out.size,HG.out.block⟩⟩
theorem Zkm {P:Program}{t:TypeId}{p:Addr}{nm:String}{w:World}:(Builtin.ssaWrapNilChk_ #[t] t #[.pointer (some p),strVal "",strVal nm]).run P w=.ok (.pointer (some p)) w:=rfl
theorem ZgT {P:Program}{fuel:Nat}{t elem e2:TypeId}{f:FuncId}{i:TypeInfo}{m:Go.Method}{name:String}{p:Addr}{u:Value}{w:World}(hi:P.info? t=some i)(hm:i.methods.find? (·.name==name)=some m)(hp:m.path=#[])(hf:m.func=some (f,false))
  (hu:P.underlying t=some (.pointer elem)) (hd:P.underlying elem=some (.slice e2)) (hc:w.cell? p=some u):
  (method (fuel+1) t (.pointer (some p)) name).run P w=.ok (f,u) w:=by
 have hagg:(isAgg elem).run P w=.ok false w:=by
  unfold isAgg;simp [run_underlying hd,go_sem]
 unfold method;simp [typeInfo,hi,hm,hp,hf,follow,receiverAt,run_underlying hu,Place.get,Zkm,asAddr,hagg,go_sem,loadVar,hc]
theorem Zcj {P:Program}{fuel:Nat}{t elem e2:TypeId}{f:FuncId}{name:String}{p:Addr}{u:Value}{w:World} (h:(P.info? t).map (fun i=>(i.methods.find? (·.name==name)).map (fun m=>(m.path,m.func)))=some (some (#[],some (f,false))))
  (hu:P.underlying t=some (.pointer elem)) (hd:P.underlying elem=some (.slice e2)) (hc:w.cell? p=some u):
  (method (fuel+1) t (.pointer (some p)) name).run P w=.ok (f,u) w:=by
 obtain⟨i,hi,h1⟩:=Option.map_eq_some_iff.1 h;obtain⟨m,hm,h2⟩:=Option.map_eq_some_iff.1 h1;simp only [Prod.mk.injEq] at h2
 exact ZgT hi hm h2.1 h2.2 hu hd hc
theorem ZeA:Tryz.prog.underlying 246=some (.pointer 211):=by kernel_rfl
theorem ZfO:Tryz.prog.underlying 211=some (.slice 208):=by kernel_rfl
theorem ZdH {p:Addr}{u:Value}{w:World}(hc:w.cell? p=some u):(method 436 246 (.pointer (some p)) "Less").run Tryz.prog w=.ok (265,u) w:=
 Zcj (by kernel_rfl) ZeA ZfO hc
theorem ZkS {p:Addr}{u:Value}{w:World}(hc:w.cell? p=some u):(method 436 246 (.pointer (some p)) "Len").run Tryz.prog w=.ok (174,u) w:=
 Zcj (by kernel_rfl) ZeA ZfO hc
theorem ZdI {p:Addr}{u:Value}{w:World}(hc:w.cell? p=some u):(method 436 246 (.pointer (some p)) "Swap").run Tryz.prog w=.ok (266,u) w:=
 Zcj (by kernel_rfl) ZeA ZfO hc
structure HB (W:World) (lo z:Nat) (C:Array Value) (u:Value) (n:Nat) (q:Nat->Nat) (wd:Nat->WayD) (wv:Nat->Value):Prop where
 box:W.heap[z]? = some (.cells C 213)
 c7:C[7]? = some u
 hq:HQ W lo u n q wd wv
theorem HB.cell {W:World}{lo z n:Nat}{C:Array Value}{u:Value}{q:Nat->Nat}{wd:Nat->WayD}{wv:Nat->Value}(h:HB W lo z C u n q wd wv):W.cell? ⟨z,7,none⟩=some u:=(Zaa h.box 7).trans h.c7
theorem HB.below {W W':World}{lo z n:Nat}{C:Array Value}{u:Value}{q:Nat->Nat}{wd:Nat->WayD}{wv:Nat->Value}(h:HB W lo z C u n q wd wv)(hb:Below W.heap.size W W'):HB W' lo z C u n q wd wv:=
 ⟨(hb.block _ (Zab h.box)).trans h.box,h.c7,h.hq.below hb⟩
theorem HB.shuf {W W':World}{lo z n:Nat}{C:Array Value}{u:Value}{q q':Nat->Nat}{wd:Nat->WayD}{wv:Nat->Value}(h:HB W lo z C u n q wd wv)(hg:W.grownBy W' u.ownBlock)(ho:W'.ownsRow lo 208 1 u n (ptrs q' n))(hs:Shuf q q' n):HB W' lo z C u n q' wd wv:=by
 refine⟨(hg.block z (Zab h.box) (Zap h.hq.row h.box (by decide))).trans h.box,h.c7,ho,fun i hi=>?_,fun i hi=>?_⟩
 ·obtain ⟨j,hj,e⟩:=hs.into i hi
  rw [e];have hw:=h.hq.way j hj;exact (hg.block _ (Zab hw) (Zap h.hq.row hw (by decide))).trans hw
 ·obtain ⟨j,hj,e⟩:=hs.into i hi
  rw [e];exact h.hq.sl j hj
theorem ZaZ {W W':World}{r:Option Nat}(hb:Below W.heap.size W W'):W.grownBy W' r:=⟨hb.os,hb.tape,hb.output,hb.size,fun k hk _=>hb.block k hk⟩
theorem up_any (W:World)(lo z n:Nat)(C:Array Value)(u:Value)(q:Nat->Nat)(wd:Nat->WayD)(wv:Nat->Value)(j:Nat)(h:HB W lo z C u n q wd wv)(hj:j<n)(hn:n<=1048576)(hu:UpInv (fun k=>(wd k).cost) q n j):
  Calls Tryz.prog 190 #[.iface 246 (.pointer (some ⟨z,7,none⟩)),.int .i64 (j:Int)] W fun e W'=>∃ q',e=.returned (.tuple #[])/\ZcI (fun k=>(wd k).cost) q' n/\Shuf q q' n/\HB W' lo z C u n q' wd wv/\W.grownBy W' u.ownBlock:=by
 have HU:=hide hu;have HH:=hide h;clear hu h
 go_enter Tryz.func190,Tryz.ntmps190
 go_wp2
 go_loopw [1] (fun i wr=>∃ (j:Nat) (q':Nat->Nat),j<n/\i=.int .i64 (j:Int)/\Hid (UpInv (fun k=>(wd k).cost) q' n j)/\Hid (Shuf q q' n)/\Hid (HB wr lo z C u n q' wd wv)/\Hid (W.grownBy wr u.ownBlock)) (fun i _=>(intOf i).toNat)
 case atStart=>exact ⟨j,q,hj,rfl,HU,hide (Shuf.refl _ _),HH,hide (Zbb _ _)⟩
 case round=>
  rename World=>wa
  clear HU HH hj;obtain⟨j,q',hj,rfl,HU,HS,HH,HG⟩:=hrel;have cz:=HH.out.cell;by_cases hj0:j=0
  ·subst hj0
   have HI:=hide (Zod HU.out (.inl rfl))
   go_wp2
   go_returns
   exact⟨q',rfl,HI.out,HS.out,HH.out,HG.out⟩
  ·have hw1:IntKind.i64.wrap ((j:Int)-1)=((j-1:Nat):Int):=by rw [ZaC _ (by omega) (by omega)];omega
   have hw2:((j-1:Nat):Int).tdiv 2=((par j:Nat):Int):=by rw [Int.tdiv_eq_ediv_of_nonneg (by omega)];unfold par;omega
   have hpl:par j<j:=Zdg (by omega)
   obtain⟨p,hp⟩:∃ p,p=par j:=⟨_,rfl⟩;rw [<-hp] at hw2 hpl;have HP:=hide hp;clear hp;have hne:((p:Int)==(j:Int))=false:=by
    have h1:¬(p:Int)=(j:Int):=by omega
    simpa using h1
   have hne2:¬(p:Int)=(j:Int):=by omega
   have HL:=hide (ZeJ wa lo n u q' wd wv j p HH.out.hq hj (by omega))
   have mL:=ZdH cz;by_cases hlt:(wd (q' j)).cost<(wd (q' p)).cost
   ·go_wp2_with fail
    refine HL.out.mono ?_
    rintro e w2 ⟨rfl,b2⟩;rw [decide_eq_true hlt];have H2:=HH.out.below b2;have cz2:=H2.cell;have mS:=ZdI cz2;have HSW:=hide (ZeY w2 lo n u q' p j H2.hq.row (by omega) hj)
    have HB2:=hide H2;have HUP:=hide (ZpX HU.out (by omega) hj (by rw [<-HP.out];exact hlt))
    rw [<-HP.out] at HUP;have HG2:=hide (Zai HG.out (ZaZ (r:=u.ownBlock) b2));clear b2 H2 mL
    go_wp2_with fail
    refine HSW.out.mono ?_
    rintro e w3 ⟨rfl,ho3,hg3⟩;have HB3:=hide (HB2.out.shuf hg3 ho3 (Shuf.swap q' (by omega) hj))
    have HS3:=hide (HS.out.trans (Shuf.swap q' (i:=p) (j:=j) (by omega) hj))
    have HG3:=hide (Zai HG2.out hg3);clear ho3 hg3 mS
    go_wp2
    go_roundw
    case rel=>exact ⟨p,_,by omega,rfl,HUP,HS3,HB3,HG3⟩
    case measure=>simp [intOf];omega
   ·go_wp2_with fail
    refine HL.out.mono ?_
    rintro e w2 ⟨rfl,b2⟩;rw [decide_eq_false (by omega)]
    have HI:=hide (Zod HU.out (.inr (by rw [<-HP.out];show ¬(wd (q' j)).cost<(wd (q' p)).cost;omega)))
    have HB2:=hide (HH.out.below b2);have HG2:=hide (Zai HG.out (ZaZ (r:=u.ownBlock) b2));clear b2 mL
    go_wp2
    go_returns
    exact⟨q',rfl,HI.out,HS.out,HB2.out,HG2.out⟩
theorem Zkb {c:Nat->Int}{q:Nat->Nat}{n i j:Nat}(h1:2*i+1<n->c (q j)<=c (q (2*i+1)))(h2:2*i+2<n->c (q j)<=c (q (2*i+2))):∀ k,0<k->k<n->par k=i->c (q j)<=c (q k):=by
 intro k h0 hk hp
 rcases Zk3 h0 hp with rfl | rfl
 ·exact h1 hk
 ·exact h2 hk
theorem ZoB (W:World)(lo z n m:Nat)(C:Array Value)(u:Value)(q:Nat->Nat)(wd:Nat->WayD)(wv:Nat->Value)(h:HB W lo z C u m q wd wv)(hnm:n<=m)(hn:m<=1048576)(hu:DownInv (fun k=>(wd k).cost) q n 0):
  Calls Tryz.prog 191 #[.iface 246 (.pointer (some ⟨z,7,none⟩)),.int .i64 0,.int .i64 (n:Int)] W fun e W'=>∃ (r:Value) (q':Nat->Nat),e=.returned r/\ZcI (fun k=>(wd k).cost) q' n/\Shuf q q' n/\HB W' lo z C u m q' wd wv/\W.grownBy W' u.ownBlock:=by
 have HU:=hide hu;have HH:=hide h;clear hu h
 go_enter Tryz.func191,Tryz.ntmps191
 go_wp2
 go_loopw [7] (fun s wr=>∃ (i:Nat) (q':Nat->Nat),i<=n/\s=.int .i64 (i:Int)/\Hid (DownInv (fun k=>(wd k).cost) q' n i)/\Hid (Shuf q q' n)/\Hid (HB wr lo z C u m q' wd wv)/\Hid (W.grownBy wr u.ownBlock)) (fun s _=>n-(intOf s).toNat)
 case atStart=>exact ⟨0,q,by omega,rfl,HU,hide (Shuf.refl _ _),HH,hide (Zbb _ _)⟩
 case round=>
  rename World=>wa
  clear HU HH;obtain⟨i,q',hi,rfl,HU,HS,HH,HG⟩:=hrel;have cz:=HH.out.cell;have hw1:IntKind.i64.wrap (2*(i:Int))=((2*i:Nat):Int):=by rw [ZaC _ (by omega) (by omega)];omega
  have hw2:IntKind.i64.wrap (((2*i:Nat):Int)+1)=((2*i+1:Nat):Int):=by rw [ZaC _ (by omega) (by omega)];omega
  have hw3:IntKind.i64.wrap (((2*i+1:Nat):Int)+1)=((2*i+2:Nat):Int):=by rw [ZaC _ (by omega) (by omega)];omega
  obtain⟨j1,hj1⟩:∃ j,j=2*i+1:=⟨_,rfl⟩;obtain⟨j2,hj2⟩:∃ j,j=2*i+2:=⟨_,rfl⟩;obtain⟨i2,hi2⟩:∃ j,j=2*i:=⟨_,rfl⟩;rw [<-hj1] at hw2 hw3;rw [<-hi2] at hw1 hw2;rw [<-hj2] at hw3;have HJ1:=hide hj1;have HJ2:=hide hj2;have hij:i<j1:=by omega
  have hj12:j2=j1+1:=by omega
  have HJ12:=hide hj12;have hj1n:¬(j1:Int)<0:=by omega
  clear hj1 hj2 hi2;by_cases hlt:j1<n
  ·clear hj12
   have hij2:i<j2:=by have:=HJ12.out;omega
   have hge:¬(n:Int)<=(j1:Int):=by omega
   have hged:decide ((j1:Int)>=(n:Int))=false:=by simp;omega
   have hged2:decide ((n:Int)<=(j1:Int))=false:=by simp;omega
   by_cases hlt2:j2<n
   ·have hl2:(j2:Int)<(n:Int):=by omega
    have mL:=ZdH cz;have HL:=hide (ZeJ wa lo m u q' wd wv j2 j1 HH.out.hq (by omega) (by omega))
    by_cases hc21:(wd (q' j2)).cost<(wd (q' j1)).cost
    ·go_wp2_with fail
     refine HL.out.mono ?_
     rintro e w2 ⟨rfl,b2⟩;rw [decide_eq_true hc21];have HB2:=hide (HH.out.below b2);have HG2:=hide (Zai HG.out (ZaZ (r:=u.ownBlock) b2));clear b2 mL cz HL;have hlJ:j2<n:=by omega
     have cz5:=HB2.out.cell;have mL5:=ZdH cz5;have HL5:=hide (ZeJ w2 lo m u q' wd wv j2 i HB2.out.hq (by omega) (by omega))
     have KM:=hide (Zkb (c:=fun k=>(wd k).cost) (q:=q') (n:=n) (i:=i) (j:=j2) (fun _=>by rw [<-HJ1.out];exact Int.le_of_lt hc21) (fun _=>by rw [<-HJ2.out];exact Int.le_refl _))
     by_cases hlt5:(wd (q' j2)).cost<(wd (q' i)).cost
     ·go_wp2_with fail
      refine HL5.out.mono ?_
      rintro e w6 ⟨rfl,b6⟩;rw [decide_eq_true hlt5];have H6:=HB2.out.below b6;have cz6:=H6.cell;have mS:=ZdI cz6;have HSW:=hide (ZeY w6 lo m u q' i j2 H6.hq.row (by omega) (by omega))
      have HB6:=hide H6;have HDN:=hide (ZfZ HU.out (j:=j2) (by omega) hlJ (by unfold par;have:=HJ1.out;have:=HJ2.out;omega) hlt5 KM.out)
      have HG6:=hide (Zai HG2.out (ZaZ (r:=u.ownBlock) b6));clear b6 H6 mL5 cz5
      go_wp2_with fail
      refine HSW.out.mono ?_
      rintro e w7 ⟨rfl,ho7,hg7⟩;have HB7:=hide (HB6.out.shuf hg7 ho7 (Shuf.swap q' (by omega) (by omega)))
      have HS7:=hide (HS.out.trans (Shuf.swap q' (i:=i) (j:=j2) (by omega) hlJ))
      have HG7:=hide (Zai HG6.out hg7);clear ho7 hg7 mS
      go_wp2
      go_roundw
      case rel=>exact ⟨j2,_,by omega,rfl,HDN,HS7,HB7,HG7⟩
      case measure=>simp [intOf];omega
     ·go_wp2_with fail
      refine HL5.out.mono ?_
      rintro e w6 ⟨rfl,b6⟩;rw [decide_eq_false (by omega)]
      have hle5:(wd (q' i)).cost<=(wd (q' j2)).cost:=by omega
      have HI:=hide (ZeF HU.out (fun k h0 hk hp=>Int.le_trans hle5 (KM.out k h0 hk hp)))
      have HB6:=hide (HB2.out.below b6);have HG6:=hide (Zai HG2.out (ZaZ (r:=u.ownBlock) b6));clear b6 mL5 cz5
      go_wp2
      go_returns
      first
       | exact ⟨_,q',rfl,HI.out,HS.out,HB6.out,HG6.out⟩
       | exact ⟨_,rfl,q',HI.out,HS.out,HB6.out,HG6.out⟩
    ·go_wp2_with fail
     refine HL.out.mono ?_
     rintro e w2 ⟨rfl,b2⟩;rw [decide_eq_false (by omega)]
     have hc21':(wd (q' j1)).cost<=(wd (q' j2)).cost:=by omega
     have HB2:=hide (HH.out.below b2);have HG2:=hide (Zai HG.out (ZaZ (r:=u.ownBlock) b2));clear b2 mL cz HL;have hlJ:j1<n:=by omega
     have cz5:=HB2.out.cell;have mL5:=ZdH cz5;have HL5:=hide (ZeJ w2 lo m u q' wd wv j1 i HB2.out.hq (by omega) (by omega))
     have KM:=hide (Zkb (c:=fun k=>(wd k).cost) (q:=q') (n:=n) (i:=i) (j:=j1) (fun _=>by rw [<-HJ1.out];exact Int.le_refl _) (fun _=>by rw [<-HJ2.out];exact hc21'))
     by_cases hlt5:(wd (q' j1)).cost<(wd (q' i)).cost
     ·go_wp2_with fail
      refine HL5.out.mono ?_
      rintro e w6 ⟨rfl,b6⟩;rw [decide_eq_true hlt5];have H6:=HB2.out.below b6;have cz6:=H6.cell;have mS:=ZdI cz6;have HSW:=hide (ZeY w6 lo m u q' i j1 H6.hq.row (by omega) (by omega))
      have HB6:=hide H6;have HDN:=hide (ZfZ HU.out (j:=j1) (by omega) hlJ (by unfold par;have:=HJ1.out;have:=HJ2.out;omega) hlt5 KM.out)
      have HG6:=hide (Zai HG2.out (ZaZ (r:=u.ownBlock) b6));clear b6 H6 mL5 cz5
      go_wp2_with fail
      refine HSW.out.mono ?_
      rintro e w7 ⟨rfl,ho7,hg7⟩;have HB7:=hide (HB6.out.shuf hg7 ho7 (Shuf.swap q' (by omega) (by omega)))
      have HS7:=hide (HS.out.trans (Shuf.swap q' (i:=i) (j:=j1) (by omega) hlJ))
      have HG7:=hide (Zai HG6.out hg7);clear ho7 hg7 mS
      go_wp2
      go_roundw
      case rel=>exact ⟨j1,_,by omega,rfl,HDN,HS7,HB7,HG7⟩
      case measure=>simp [intOf];omega
     ·go_wp2_with fail
      refine HL5.out.mono ?_
      rintro e w6 ⟨rfl,b6⟩;rw [decide_eq_false (by omega)]
      have hle5:(wd (q' i)).cost<=(wd (q' j1)).cost:=by omega
      have HI:=hide (ZeF HU.out (fun k h0 hk hp=>Int.le_trans hle5 (KM.out k h0 hk hp)))
      have HB6:=hide (HB2.out.below b6);have HG6:=hide (Zai HG2.out (ZaZ (r:=u.ownBlock) b6));clear b6 mL5 cz5
      go_wp2
      go_returns
      first
       | exact ⟨_,q',rfl,HI.out,HS.out,HB6.out,HG6.out⟩
       | exact ⟨_,rfl,q',HI.out,HS.out,HB6.out,HG6.out⟩
   ·have hl2:¬(j2:Int)<(n:Int):=by omega
    have hlJ:j1<n:=by omega
    have cz5:=HH.out.cell;have mL5:=ZdH cz5;have HL5:=hide (ZeJ wa lo m u q' wd wv j1 i HH.out.hq (by omega) (by omega))
    have KM:=hide (Zkb (c:=fun k=>(wd k).cost) (q:=q') (n:=n) (i:=i) (j:=j1) (fun _=>by rw [<-HJ1.out];exact Int.le_refl _) (fun h=>by have:=HJ2.out;omega))
    by_cases hlt5:(wd (q' j1)).cost<(wd (q' i)).cost
    ·go_wp2_with fail
     refine HL5.out.mono ?_
     rintro e w6 ⟨rfl,b6⟩;rw [decide_eq_true hlt5];have H6:=HH.out.below b6;have cz6:=H6.cell;have mS:=ZdI cz6;have HSW:=hide (ZeY w6 lo m u q' i j1 H6.hq.row (by omega) (by omega))
     have HB6:=hide H6;have HDN:=hide (ZfZ HU.out (j:=j1) (by omega) hlJ (by unfold par;have:=HJ1.out;have:=HJ2.out;omega) hlt5 KM.out)
     have HG6:=hide (Zai HG.out (ZaZ (r:=u.ownBlock) b6));clear b6 H6 mL5 cz5
     go_wp2_with fail
     refine HSW.out.mono ?_
     rintro e w7 ⟨rfl,ho7,hg7⟩;have HB7:=hide (HB6.out.shuf hg7 ho7 (Shuf.swap q' (by omega) (by omega)))
     have HS7:=hide (HS.out.trans (Shuf.swap q' (i:=i) (j:=j1) (by omega) hlJ))
     have HG7:=hide (Zai HG6.out hg7);clear ho7 hg7 mS
     go_wp2
     go_roundw
     case rel=>exact ⟨j1,_,by omega,rfl,HDN,HS7,HB7,HG7⟩
     case measure=>simp [intOf];omega
    ·go_wp2_with fail
     refine HL5.out.mono ?_
     rintro e w6 ⟨rfl,b6⟩;rw [decide_eq_false (by omega)]
     have hle5:(wd (q' i)).cost<=(wd (q' j1)).cost:=by omega
     have HI:=hide (ZeF HU.out (fun k h0 hk hp=>Int.le_trans hle5 (KM.out k h0 hk hp)))
     have HB6:=hide (HH.out.below b6);have HG6:=hide (Zai HG.out (ZaZ (r:=u.ownBlock) b6));clear b6 mL5 cz5
     go_wp2
     go_returns
     first
      | exact ⟨_,q',rfl,HI.out,HS.out,HB6.out,HG6.out⟩
      | exact ⟨_,rfl,q',HI.out,HS.out,HB6.out,HG6.out⟩
  ·clear hj12
   have hge:(n:Int)<=(j1:Int):=by omega
   have HI:=hide (ZeF HU.out (fun k h0 hk hp=>by rcases Zk3 h0 hp with e | e <;> (have:=HJ1.out;omega)))
   go_wp2
   go_returns
   first
    | exact ⟨_,q',rfl,HI.out,HS.out,HH.out,HG.out⟩
    | exact ⟨_,rfl,q',HI.out,HS.out,HH.out,HG.out⟩
    | exact ⟨⟨_,rfl⟩,q',HI.out,HS.out,HH.out,HG.out⟩
theorem Tryz.infoPtr:(Tryz.prog.info? 208).map (fun i=>(i.zero,i.size,i.bytes))=some (some (.pointer none),1,8):=by kernel_rfl
structure FK (W W':World) (lo z:Nat):Prop where
 os:W'.os=W.os
 tape:W'.tape=W.tape
 output:W'.output=W.output
 size:W.heap.size<=W'.heap.size
 low:∀ k,k<lo->W'.heap[k]? = W.heap[k]?
 typed:∀ (k:Nat) (cs:Array Value) (t:TypeId) (fr:Nat × Nat),W.heap[k]? = some (.cells cs t fr)->t≠208->k≠z->W'.heap[k]? = W.heap[k]?
theorem FK.trans {W W1 W2:World}{lo z:Nat}(a:FK W W1 lo z)(b:FK W1 W2 lo z):FK W W2 lo z:=
 ⟨b.os.trans a.os,b.tape.trans a.tape,b.output.trans a.output,Nat.le_trans a.size b.size,fun k hk=>(b.low k hk).trans (a.low k hk),fun k cs t fr h ht hz=>(b.typed k cs t fr ((a.typed k cs t fr h ht hz).trans h) ht hz).trans (a.typed k cs t fr h ht hz)⟩
theorem FK.of_below {W W':World}{lo z:Nat}(h:Below W.heap.size W W')(hlo:lo<=W.heap.size):FK W W' lo z:=⟨h.os,h.tape,h.output,h.size,fun k hk=>h.block k (by omega),fun k _ _ _ hk _ _=>h.block k (Zab hk)⟩
theorem FK.of_grown {W W':World}{lo z n:Nat}{u:Value}{xs:List Value}(hr:W.ownsRow lo 208 1 u n xs)(h:W.grownBy W' u.ownBlock)(hlo:lo<=W.heap.size):FK W W' lo z:=
 ⟨h.os,h.tape,h.output,h.size,fun k hk=>h.block k (by omega) (fun e=>by have:=(hr.lt k e.symm).1;omega),fun k _ _ _ hk ht _=>h.block k (Zab hk) (Zap hr hk (fun e=>ht e.symm))⟩
theorem FK.of_set {W:World}{lo z j:Nat}(u:Value)(hz:lo<=z):FK W (W.setCell ⟨z,j,none⟩ u) lo z:=
 ⟨rfl,rfl,rfl,by simp,fun k hk=>heap_setCell_other W ⟨z,j,none⟩ k _ (by show k≠z;omega),fun k _ _ _ _ _ hk=>heap_setCell_other W ⟨z,j,none⟩ k _ hk⟩
theorem FK.below {W W':World}{lo z:Nat}(h:FK W W' lo z):Below lo W W':=⟨h.os,h.tape,h.output,h.size,h.low⟩
theorem ZnL (q:Nat->Nat)(n k:Nat):ptrs (fun x=>if x=n then k else q x) (n+1)=ptrs q n++[ptrV k]:=by
 unfold ptrs;rw [List.range_succ,List.map_append]
 congr 1
 ·apply List.map_congr_left
  intro i hi;have hi2:=List.mem_range.1 hi
  show ptrV (if i=n then k else q i)=ptrV (q i)
  rw [if_neg (by omega)]
 ·simp
theorem Zo3 {W:World}{lo n g cap k:Nat}{e:TypeId}{xs:List Value}(h:W.ownsRow lo e 1 (.slice (some ⟨g,0,none⟩) n cap) n xs)(hk:k<=n):W.ownsRow lo e 1 (.slice (some ⟨g,0,none⟩) k cap) k (xs.take k):=by
 rcases h.2 with ⟨e1,_⟩ | ⟨g',cap',cur,hv,hg,hh,hnc,hcm,hcs,htk⟩
 ·cases e1
 ·cases hv
  have hl:=h.1;refine⟨by rw [List.length_take];omega,.inr ⟨g,cap,cur,rfl,hg,hh,by omega,hcm,hcs,?_⟩⟩
  rw [<-htk,List.take_take]
  congr 1
  omega
theorem ZnM (q:Nat->Nat){n k:Nat}(h:k<=n):(ptrs q n).take k=ptrs q k:=by
 unfold ptrs;rw [<-List.map_take,List.take_range,Nat.min_eq_left h]
theorem Ze4 {w:World}{o:Oper}{a:Act}{K:Act->World->Prop}{Q:Exit->Act->World->Prop}{lo:Nat}{u:Value}(s x:Operand) (ho:o.op=.call { callee:=.builtin .append,args:=#[s,x],argTypes:=#[211,211] }) (q:Nat->Nat) (k n:Nat) (hs:a.eval s=u) (hown:w.ownsRow lo 208 1 u n (ptrs q n))
  {g:Nat} (hx:a.eval x=.slice (some ⟨g,0,none⟩) 1 1) (hnew:w.cell? ⟨g,0,none⟩=some (ptrV k)) (hn:n<=1000000) (hlo:lo<=w.heap.size)
  (h:∀ v' w',w'.ownsRow lo 208 1 v' (n+1) (ptrs (fun x=>if x=n then k else q x) (n+1))->w.grownBy w' u.ownBlock->K (a.put o.dst v') w'):o.wp Tryz.prog a w K Q:=by
 obtain⟨i0,hi,hz0,hz1,hz2⟩:=info_parts Tryz.infoPtr;refine wp_append_own w s x 211 ho lo 208 i0 (.pointer none) 1 8 ZfO hi hz0 hz1 hz2 rfl (by omega) u n (ptrs q n) hs hown ⟨g,0,none⟩ 1 1 [ptrV k] hx rfl ?_ ?_ (by unfold maxLen;omega) (by omega) hlo ?_
 ·intro j u hj
  match j,hj with
  | 0,hj=>simp at hj;subst hj;exact hnew
 ·intro u hu
  simp at hu
  subst hu
  rfl
 ·intro v' w' h1 h2 _
  rw [<-ZnL] at h1;exact h v' w' h1 h2
theorem Zlk (v:Value)(w:World):(Instr.typeAssert (.iface 208 v) 20 208 false).run Tryz.prog w=.ok v w:=by kernel_rfl
theorem ZnN (W:World)(lo z n:Nat)(C:Array Value)(u:Value)(q:Nat->Nat)(wd:Nat->WayD)(wv:Nat->Value)(k:Nat)(h:HB W lo z C u n q wd wv)(hlo:lo<=W.heap.size)(hn:n<=1000)(hC:C.size=8)(hz:lo<=z)
  (hk:W.heap[k]? = some (.cells (wayC (wd k) (wv k)) 104)) (hks:∃ a l c,wv k=.slice a l c):
  Calls Tryz.prog 268 #[.pointer (some ⟨z,7,none⟩),.iface 208 (.pointer (some ⟨k,0,none⟩))] W fun e W'=>∃ u',e=.returned (.tuple #[])/\HB W' lo z (C.setIfInBounds 7 u') u' (n+1) (fun x=>if x=n then k else q x) wd wv/\FK W W' lo z:=by
 have cz:=h.cell;have fz:=Zae h.box;obtain⟨a1,c1,rfl⟩:=Zac h.hq.row;have FIN:∀ (W3:World) (u':Value) (W1:World),(∀ j,j<W.heap.size->W1.heap[j]? = W.heap[j]?)->W.heap.size<=W1.heap.size->W1.os=W.os->W1.tape=W.tape->W1.output=W.output->W3.ownsRow lo 208 1 u' (n+1) (ptrs (fun x=>if x=n then k else q x) (n+1))->W1.grownBy W3 (Value.slice a1 n c1).ownBlock ->
   W3.cell? ⟨z,7,none⟩=some (.slice a1 n c1)/\(∀ j,W3.frozen? ⟨z,j,none⟩=false)/\HB (W3.setCell ⟨z,7,none⟩ u') lo z (C.setIfInBounds 7 u') u' (n+1) (fun x=>if x=n then k else q x) wd wv/\FK W (W3.setCell ⟨z,7,none⟩ u') lo z:=by
  intro W3 u' W1 hW1 hs1 e1 e2 e3 ho3 hg3;have keep:∀ j,j<W.heap.size->some j≠(Value.slice a1 n c1).ownBlock->W3.heap[j]? = W.heap[j]? := fun j hj hne=>(hg3.block j (by omega) hne).trans (hW1 j hj)
  have hb3:W3.heap[z]? = some (.cells C 213):=(keep z (Zab h.box) (Zap h.hq.row h.box (by decide))).trans h.box
  have kway:∀ (j:Nat) (x:Array Value),W.heap[j]? = some (.cells x 104)->(W3.setCell ⟨z,7,none⟩ u').heap[j]? = some (.cells x 104):=by
   intro j x hj;rw [heap_setCell_other W3 ⟨z,7,none⟩ j _ (by
    intro e;have e':j=z:=e;rw [e',h.box] at hj;simp at hj)]
   exact (keep j (Zab hj) (Zap h.hq.row hj (by decide))).trans hj
  refine⟨(Zaa hb3 7).trans h.c7,Zae hb3,⟨heap_setCell_same _ _ 7 _ _ _ hb3,by simp [hC],?_,fun i hi=>?_,fun i hi=>?_⟩,?_⟩
  ·exact Zal ho3 (fun j hj=>heap_setCell_other W3 ⟨z,7,none⟩ j _ (fun e=>by
    have e':j=z:=e;exact Zap ho3 hb3 (by decide) (by rw [hj,e'])))
  ·show (W3.setCell ⟨z,7,none⟩ u').heap[if i=n then k else q i]? = some (.cells (wayC (wd (if i=n then k else q i)) (wv (if i=n then k else q i))) 104)
   by_cases e:i=n
   ·rw [if_pos e];exact kway k _ hk
   ·rw [if_neg e];exact kway _ _ (h.hq.way i (by omega))
  ·show ∃ a l c,wv (if i=n then k else q i)=.slice a l c
   by_cases e:i=n
   ·rw [if_pos e];exact hks
   ·rw [if_neg e];exact h.hq.sl i (by omega)
  ·refine FK.trans ?_ (FK.of_set u' hz)
   exact⟨hg3.os.trans e1,hg3.tape.trans e2,hg3.output.trans e3,by have:=hg3.size;omega,fun j hj=>keep j (by omega) (fun e=>by have:=(h.hq.row.lt j e.symm).1;omega),fun j _ _ _ hj ht _=>keep j (Zab hj) (Zap h.hq.row hj (fun e=>ht e.symm))⟩
 have HFIN:=hide FIN;have HH:=hide h;have lz:=Zab h.box;clear FIN h fz hk
 go_enter Tryz.func268,Tryz.ntmps268
 go_wp2
 refine Zam (S:=fun _=>True) (by kernel_rfl) 10 rfl trivial ?_
 intro ops hops _;have czd:W.drew.cell? ⟨z,7,none⟩=some (.slice a1 n c1):=cz
 show wpAnyH Tryz.prog .any ops _ (fun _=>True) 10 #[false,false,false,false,false,false,false,false,false,false] _ W.drew
 iterate 3
  refine Zar 10 ?_ ?_ ?_ (by rw [hops.out];kernel_rfl) ?_ ?_ trivial ?_
  rotate_left 2
  ·rw [hops.out];simp only [getS,Nat.reduceSub,Nat.reduceAdd];rfl
  ·intro W _;have hAs:=fun v=>Zlk v W;go_simp <;> with_reducible rfl
  ·exact fun _ _ _=>id
  try simp only [putS]
 refine ZaW 4 ?_ ?_ ?_ (by rw [hops.out];kernel_rfl) ?_ ?_ trivial ?_
 rotate_left 2
 ·rw [hops.out];simp only [getS];rfl
 ·intro W _;have hAs:=fun v=>Zlk v W;go_simp <;> with_reducible rfl
 ·exact fun _ _ _=>id
 try simp only [putS]
 refine ZaW 5 ?_ ?_ ?_ (by rw [hops.out];kernel_rfl) ?_ ?_ trivial ?_
 rotate_left 2
 ·rw [hops.out];simp only [getS];rfl
 ·intro W _;have hAs:=fun v=>Zlk v W;go_simp <;> with_reducible rfl
 ·exact fun _ _ _=>id
 try simp only [putS]
 refine wpAnyH_ready (rs:=[3,6]) (by rw [hops.out];kernel_rfl) (by simp) ?_
 refine AllReadyH.cons (o:=?_) ?_ (fun K hK=>?_) ?_
 rotate_left 1
 ·rw [hops.out];simp only [getS];rfl
 ·rw [if_pos (by rfl)]
  go_simp
  refine hK.out _ _ trivial (fun _=>?_)
  clear hK K
  try simp only [putS]
  refine wpAnyH_ready (rs:=[6]) (by rw [hops.out];kernel_rfl) (by simp) ?_
  refine AllReadyH.cons (o:=?_) ?_ (fun K hK=>?_) ?_
  rotate_left 1
  ·rw [hops.out];simp only [getS];rfl
  ·rw [if_pos (by rfl)]
   go_simp
   refine hK.out _ _ trivial (fun _=>?_)
   clear hK K
   try simp only [putS]
   have ho2:=(HH.out.hq.row.drew).alloc (.cells #[.pointer (some ⟨k,0,none⟩)] 208);have nw2:=Zaa (heap_alloc_new W.drew (.cells #[.pointer (some ⟨k,0,none⟩)] 208)) 0;have hs2:lo<=(W.drew.alloc (.cells #[.pointer (some ⟨k,0,none⟩)] 208)).heap.size:=by simp;omega
   refine Zao 7 (oi:=?_) ?_ (by rw [hops.out];kernel_rfl) ?_ ?_
   rotate_left 1
   ·rw [hops.out];simp only [getS];rfl
   ·rw [hops.out];kernel_rfl
   intro K hK;refine Ze4 _ _ rfl q k n rfl ho2 rfl nw2 (by omega) hs2 ?_
   intro v' W3 ho3 hg3;obtain⟨na,nc,rfl⟩:=Zac ho3;refine hK.out _ _ trivial (fun _=>?_)
   clear hK K
   try simp only [putS]
   refine ZaW 8 ?_ ?_ ?_ (by rw [hops.out];kernel_rfl) ?_ ?_ trivial ?_
   rotate_left 2
   ·rw [hops.out];simp only [getS];rfl
   ·intro W _;have hAs:=fun v=>Zlk v W;go_simp <;> with_reducible rfl
   ·exact fun _ _ _=>id
   try simp only [putS]
   obtain⟨d7,f7,r1,r2⟩:=HFIN.out W3 _ ((W.alloc (.cells #[.pointer (some ⟨k,0,none⟩)] 208)).drew) (fun j hj=>Below.heap_alloc W _ j hj) (by show W.heap.size<=(W.alloc (.cells #[.pointer (some ⟨k,0,none⟩)] 208)).heap.size;simp) rfl rfl rfl ho3 hg3
   have R1:=hide r1;have R2:=hide r2;clear r1 r2 ho3 hg3 ho2 nw2 HFIN HH;refine Zao 9 (oi:=?_) ?_ (by rw [hops.out];kernel_rfl) ?_ ?_
   rotate_left 1
   ·rw [hops.out];simp only [getS];rfl
   ·rw [hops.out];kernel_rfl
   intro K hK;have f77:=f7 7
   go_simp
   refine hK.out _ _ trivial (fun _=>?_)
   clear hK K;refine wpAnyH_done (by rw [hops.out];kernel_rfl) ?_ _
   clear hops ops
   go_wp2
   go_returns
   exact⟨_,rfl,R1.out,R2.out⟩
  exact AllReadyH.nil
 refine AllReadyH.cons (o:=?_) ?_ (fun K hK=>?_) ?_
 rotate_left 1
 ·rw [hops.out];simp only [getS];rfl
 ·rw [if_pos (by rfl)]
  go_simp
  refine hK.out _ _ trivial (fun _=>?_)
  clear hK K
  try simp only [putS]
  refine wpAnyH_ready (rs:=[3]) (by rw [hops.out];kernel_rfl) (by simp) ?_
  refine AllReadyH.cons (o:=?_) ?_ (fun K hK=>?_) ?_
  rotate_left 1
  ·rw [hops.out];simp only [getS];rfl
  ·rw [if_pos (by rfl)]
   have cz5:(W.drew.alloc (.cells #[.pointer (some ⟨k,0,none⟩)] 208)).cell? ⟨z,7,none⟩=some (.slice a1 n c1):=by
    rw [World.cell?_of_block (Below.heap_alloc _ _ _ (by simpa using lz))]
    exact czd
   go_simp
   refine hK.out _ _ trivial (fun _=>?_)
   clear hK K cz5
   try simp only [putS]
   have ho2:=(HH.out.hq.row.drew).alloc (.cells #[.pointer (some ⟨k,0,none⟩)] 208);have nw2:=Zaa (heap_alloc_new W.drew (.cells #[.pointer (some ⟨k,0,none⟩)] 208)) 0;have hs2:lo<=(W.drew.alloc (.cells #[.pointer (some ⟨k,0,none⟩)] 208)).heap.size:=by simp;omega
   refine Zao 7 (oi:=?_) ?_ (by rw [hops.out];kernel_rfl) ?_ ?_
   rotate_left 1
   ·rw [hops.out];simp only [getS];rfl
   ·rw [hops.out];kernel_rfl
   intro K hK;refine Ze4 _ _ rfl q k n rfl ho2 rfl nw2 (by omega) hs2 ?_
   intro v' W3 ho3 hg3;obtain⟨na,nc,rfl⟩:=Zac ho3;refine hK.out _ _ trivial (fun _=>?_)
   clear hK K
   try simp only [putS]
   refine ZaW 8 ?_ ?_ ?_ (by rw [hops.out];kernel_rfl) ?_ ?_ trivial ?_
   rotate_left 2
   ·rw [hops.out];simp only [getS];rfl
   ·intro W _;have hAs:=fun v=>Zlk v W;go_simp <;> with_reducible rfl
   ·exact fun _ _ _=>id
   try simp only [putS]
   obtain⟨d7,f7,r1,r2⟩:=HFIN.out W3 _ ((W.alloc (.cells #[.pointer (some ⟨k,0,none⟩)] 208)).drew) (fun j hj=>Below.heap_alloc W _ j hj) (by show W.heap.size<=(W.alloc (.cells #[.pointer (some ⟨k,0,none⟩)] 208)).heap.size;simp) rfl rfl rfl ho3 hg3
   have R1:=hide r1;have R2:=hide r2;clear r1 r2 ho3 hg3 ho2 nw2 HFIN HH;refine Zao 9 (oi:=?_) ?_ (by rw [hops.out];kernel_rfl) ?_ ?_
   rotate_left 1
   ·rw [hops.out];simp only [getS];rfl
   ·rw [hops.out];kernel_rfl
   intro K hK;have f77:=f7 7
   go_simp
   refine hK.out _ _ trivial (fun _=>?_)
   clear hK K;refine wpAnyH_done (by rw [hops.out];kernel_rfl) ?_ _
   clear hops ops
   go_wp2
   go_returns
   exact⟨_,rfl,R1.out,R2.out⟩
  exact AllReadyH.nil
 exact AllReadyH.nil
theorem Zo5 (W:World)(lo z n:Nat)(C:Array Value)(u:Value)(q:Nat->Nat)(wd:Nat->WayD)(wv:Nat->Value)(h:HB W lo z C u (n+1) q wd wv)(hn:n<=1000)(hC:C.size=8)(hz:lo<=z):
  Calls Tryz.prog 267 #[.pointer (some ⟨z,7,none⟩)] W fun e W'=>∃ u',e=.returned (.iface 208 (ptrV (q n)))/\HB W' lo z (C.setIfInBounds 7 u') u' n q wd wv/\FK W W' lo z:=by
 obtain⟨g,cap,hu,cn,hg⟩:=h.hq.cell (i:=n) (by omega)
 have cz:=h.cell;have fz:=Zae h.box;subst hu;unfold ptrV at cn |-;have hcap:n+1<=cap:=by
  rcases h.hq.row.2 with ⟨e1,_⟩ | ⟨g',cap',cur,hv,_,hh,hnc,_⟩
  ·cases e1
  ·cases hv;exact hnc
 have R1:=hide (show HB (W.setCell ⟨z,7,none⟩ (.slice (some ⟨g,0,none⟩) n cap)) lo z (C.setIfInBounds 7 (.slice (some ⟨g,0,none⟩) n cap)) (.slice (some ⟨g,0,none⟩) n cap) n q wd wv by
  have hzg:some z≠(Value.slice (some ⟨g,0,none⟩) (n+1) cap).ownBlock:=Zap h.hq.row h.box (by decide)
  have hgz:g≠z:=fun e=>hzg (by rw [e];rfl)
  refine⟨heap_setCell_same _ _ 7 _ _ _ h.box,by simp [hC],?_,fun i hi=>?_,fun i hi=>h.hq.sl i (by omega)⟩
  ·have o1:=Zo3 h.hq.row (k:=n) (by omega)
   rw [ZnM q (by omega)] at o1
   exact Zal o1 (fun j hj=>heap_setCell_other W ⟨z,7,none⟩ j _ (fun e=>by
    have e':j=z:=e;simp [Value.ownBlock] at hj
    omega))
  ·have hw:=h.hq.way i (by omega)
   rw [heap_setCell_other W ⟨z,7,none⟩ (q i) _ (fun e=>by
    have e':q i=z:=e;rw [e',h.box] at hw;simp at hw)]
   exact hw)
 have R2:=hide (show FK W (W.setCell ⟨z,7,none⟩ (.slice (some ⟨g,0,none⟩) n cap)) lo z from FK.of_set _ hz)
 have f7:=fz 7;have hw1:IntKind.i64.wrap (((n+1:Nat):Int)-1)=(n:Int):=by rw [ZaC _ (by omega) (by omega)];omega
 have hw2:IntKind.i64.wrap ((n:Int)+1-1)=(n:Int):=by rw [ZaC _ (by omega) (by omega)];omega
 have h1:(0:Int)<=(n:Int):=by omega
 have h2:(n:Int)<((n+1:Nat):Int):=by omega
 have h3:(n:Int)<=(cap:Int):=by omega
 clear h fz hC
 go_enter Tryz.func267,Tryz.ntmps267
 go_wp2
 go_ret
 first
  | exact ⟨_,rfl,R1.out,R2.out⟩
  | exact ⟨rfl,_,R1.out,R2.out⟩
theorem ZiR (W:World)(lo z n:Nat)(C:Array Value)(u:Value)(q:Nat->Nat)(wd:Nat->WayD)(wv:Nat->Value)(k:Nat)(h:HB W lo z C u n q wd wv)(hlo:lo<=W.heap.size)(hn:n<=1000)(hC:C.size=8)(hz:lo<=z)
  (hk:W.heap[k]? = some (.cells (wayC (wd k) (wv k)) 104)) (hks:∃ a l c,wv k=.slice a l c) (hh:ZcI (fun k=>(wd k).cost) q n):
  Calls Tryz.prog 173 #[.iface 246 (.pointer (some ⟨z,7,none⟩)),.iface 208 (.pointer (some ⟨k,0,none⟩))] W fun e W'=>∃ u' q',e=.returned (.tuple #[])/\ZcI (fun k=>(wd k).cost) q' (n+1)/\Shuf (fun x=>if x=n then k else q x) q' (n+1)/\HB W' lo z (C.setIfInBounds 7 u') u' (n+1) q' wd wv/\FK W W' lo z:=by
 have HP:=hide (ZnN W lo z n C u q wd wv k h hlo hn hC hz hk hks);have HUP:=hide (ZpN (k:=k) hh);clear h hk hh
 go_enter Tryz.func173,Tryz.ntmps173
 go_wp2_with fail
 refine HP.out.mono ?_
 rintro e w1 ⟨u',rfl,h1,f1⟩;have cz1:=h1.cell;obtain⟨a1,c1,rfl⟩:=Zac h1.hq.row;have mL:=ZkS cz1;have hs1:lo<=w1.heap.size:=Nat.le_trans hlo f1.size;have HU:=hide (up_any w1 lo z (n+1) _ _ _ wd wv n h1 (by omega) (by omega) HUP.out)
 have HF1:=hide f1;have HR1:=hide h1.hq.row;have hw1:IntKind.i64.wrap (((n+1:Nat):Int)-1)=(n:Int):=by rw [ZaC _ (by omega) (by omega)];omega
 have hw2:IntKind.i64.wrap ((n:Int)+1-1)=(n:Int):=by rw [ZaC _ (by omega) (by omega)];omega
 clear h1 f1 HP HUP
 go_wp2_with fail
 refine (ZhV _ _ _ _).mono ?_
 rintro e w2 ⟨rfl,rfl⟩
 go_wp2_with fail
 refine HU.out.mono ?_
 rintro e w2 ⟨q',rfl,hi,hsh,hb,hg⟩;have HI:=hide hi;have HS:=hide hsh;have HB2:=hide hb;have HF2:=hide (HF1.out.trans (FK.of_grown HR1.out hg hs1));clear hi hsh hb hg mL
 go_wp2
 go_returns
 exact⟨_,q',rfl,HI.out,HS.out,HB2.out,HF2.out⟩
theorem ZiQ {W W':World}{lo z n:Nat}{C:Array Value}{u:Value}{q:Nat->Nat}{wd:Nat->WayD}{wv:Nat->Value}(h:HB W lo z C u n q wd wv)(hg:W.grownBy W' u.ownBlock)(hlo:lo<=W.heap.size):FK W W' lo z:=FK.of_grown h.hq.row hg hlo
theorem ZjZ (W:World)(lo z n:Nat)(C:Array Value)(u:Value)(q:Nat->Nat)(wd:Nat->WayD)(wv:Nat->Value)(h:HB W lo z C u (n+1) q wd wv)(hlo:lo<=W.heap.size)(hn:n<=1000)(hC:C.size=8)(hz:lo<=z)(hh:ZcI (fun k=>(wd k).cost) q (n+1)):
  Calls Tryz.prog 175 #[.iface 246 (.pointer (some ⟨z,7,none⟩))] W fun e W'=>∃ u' q',e=.returned (.iface 208 (ptrV (q 0)))/\ZcI (fun k=>(wd k).cost) q' n/\Shuf (Zcc q 0 n) q' n/\HB W' lo z (C.setIfInBounds 7 u') u' n q' wd wv/\FK W W' lo z:=by
 have cz:=h.cell;obtain⟨a1,c1,rfl⟩:=Zac h.hq.row;have mL:=ZkS cz;have mS:=ZdI cz;have HSW:=hide (ZeY W lo (n+1) _ q 0 n h.hq.row (by omega) (by omega))
 have HPD:=hide (Zo6 hh);have HH:=hide h;have hw1:IntKind.i64.wrap (((n+1:Nat):Int)-1)=(n:Int):=by rw [ZaC _ (by omega) (by omega)];omega
 have hw2:IntKind.i64.wrap ((n:Int)+1-1)=(n:Int):=by rw [ZaC _ (by omega) (by omega)];omega
 clear h hh
 go_enter Tryz.func175,Tryz.ntmps175
 go_wp2_with fail
 refine (ZhV _ _ _ _).mono ?_
 rintro e w1 ⟨rfl,rfl⟩
 go_wp2_with fail
 refine HSW.out.mono ?_
 rintro e w2 ⟨rfl,ho2,hg2⟩;have h2:=HH.out.shuf hg2 ho2 (Shuf.swap q (by omega) (by omega))
 have hs2:lo<=w2.heap.size:=Nat.le_trans hlo hg2.size;have HD:=hide (ZoB w2 lo z n (n+1) C _ _ wd wv h2 (by omega) (by omega) HPD.out)
 have HF2:=hide (ZiQ HH.out hg2 hlo (z:=z));have HH2:=hide h2;clear h2 ho2 hg2 mL mS cz HSW HPD
 go_wp2_with fail
 refine HD.out.mono ?_
 rintro e w3 ⟨r,q',rfl,hi,hsh,hb,hg⟩;have HI:=hide hi;have HS:=hide hsh;have HF3:=hide (HF2.out.trans (ZiQ HH2.out hg hs2 (z:=z)));have HPO:=hide (Zo5 w3 lo z n C _ q' wd wv hb hn hC hz);have HQ0:=hide (show q' n=q 0 by
  rw [hsh.rest n (Nat.le_refl _)];unfold Zcc;by_cases e:n=0
  ·rw [if_pos e,e]
  ·rw [if_neg e,if_pos rfl])
 clear hi hsh hb hg HD
 go_wp2_with fail
 refine HPO.out.mono ?_
 rintro e w4 ⟨u',rfl,hb4,f4⟩;rw [HQ0.out];have HB4:=hide hb4;have HF4:=hide (HF3.out.trans f4);clear hb4 f4 HPO
 go_wp2
 go_returns
 exact⟨_,q',rfl,HI.out,HS.out,HB4.out,HF4.out⟩
end Go.Proofs.YtnndlmodjkplnaaGreatDoor
