/-
  Parts.
-/
import Derived.Test.YtikloccefmofdaaGreatFi34
import Derived.Test.YtikloccefmofdaaGreatFi30
import Derived.Deep.RegionHeldLaw
import Derived.Deep.AppendLies
namespace Go.Proofs.YtikloccefmofdaaGreat
open Go.RowKit
set_option linter.unusedSimpArgs false
set_option linter.unusedVariables false
set_option maxRecDepth 100000
set_option maxHeartbeats 8000000
variable {a node:Int}{zs:List Bool}{al:List Int}{ls:List Lk}{ps:List RP}{xs:List RecD}{N N2 hi i k lo:Nat}{r:RecD}{v:Value}{W W':World}
def Home (ls:List Lk)(N:Nat)(xs:List RecD):Prop:=∀ r∈xs,r.kind=1->r.area∈Zas ls r.owner/\1<=r.owner/\r.owner<=(N:Int)
theorem Home.put (h:Home ls N xs)(hr:r.kind=1->r.area∈Zas ls r.owner/\1<=r.owner/\r.owner<=(N:Int)):Home ls N (putD xs r):=by
 intro q hq hk;rcases ZeA hq with h1 | h1
 ·exact h q h1 hk
 ·subst h1;exact hr hk
theorem Zh5 {bs:List Bool}{v:Int}(h:Home ls N xs)(hv:1<=v/\v<=(N:Int)):∀ j,j<=(Zas ls v).length->Home ls N (ZeJ ls bs zs N2 v (Zas ls v) xs j)
 | 0,_=>h
 | j+1,hj=>by
  obtain⟨a,ha⟩:∃ a,(Zas ls v)[j]? = some a:=⟨(Zas ls v)[j],YAA (by omega)⟩;rw [Zf5 ha];exact (Zh5 h hv j (by omega)).put (fun _=>⟨YAG ha,hv⟩)
theorem Zi7 {bs:List Bool}:∀ k,k<=N->Home ls N (idA ls bs zs N2 k)
 | 0,_=>fun r hr=>by cases hr
 | k+1,hk=>by
  unfold idA
  split
  ·exact Zh5 (Zi7 k (by omega)) ⟨by omega,by omega⟩ _ (YA _)
  ·exact Zi7 k (by omega)
theorem ZgK {ts:List Th}(h:Home ls N xs):∀ k,Home ls N (idB ts zs xs k)
 | 0=>h
 | k+1=>by
  unfold idB
  split
  ·split
   ·exact (ZgK h k).put (fun e=>by simp [Zb6] at e)
   ·exact ZgK h k
  ·exact ZgK h k
theorem Zi8 (h:Home ls N xs):∀ k,Home ls N (idC ls zs xs k)
 | 0=>h
 | k+1=>by
  unfold idC
  split
  ·intro r hr hk;rcases Zmk hr with h1 | h1
   ·exact Zi8 h k r h1 hk
   ·rw [hk] at h1;cases h1
  ·exact Zi8 h k
theorem Zmc (h:Home ls N xs):∀ r,Home ls N (idR ls zs N2 xs r)
 | 0=>h
 | r+1=>Zi8 (Zmc h r) N2
theorem Zna (ls:List Lk)(ts:List Th)(bs zs:List Bool)(N:Nat):Home ls N (ZcI ls ts bs zs N):=Zmc (ZgK (Zi7 N (YA _)) _) 3
theorem Zkd (h:Home ls N xs){area:Int}{u:Nat}(hn:Zdt xs area (u:Int)=true):area∈Zas ls (u:Int)/\1<=u/\u<=N:=by
 unfold Zdt ZdY at hn;rcases ZcY xs (ZeL area (u:Int)) with h1 | ⟨k,x,h1,h2,h3⟩
 ·rw [h1] at hn;simp at hn
 ·simp only [Zap,ZeL,YAJ,beq_iff_eq] at h3;have h4:=h x (YAG h2) h3.1.1.2;rw [h3.1.1.1,h3.1.2] at h4;exact⟨h4.1,by omega,by omega⟩
def keyB (area owner key:Int):RecD:=⟨area,2,owner,key,0,[],0,false⟩
def ZkR (xs:List RecD)(r:RecD)(i:Nat):Prop:=i<=xs.length/\(∀ t,t<i->ltAt xs r t)/\∀ t,i<=t->t<xs.length->¬ltAt xs r t
theorem Zpt (v:Value)(ps:List RP)(hi:Nat)(area owner:Int)(w:World)(hv:RecsIn w hi v ps)(hhi:hi<=w.heap.size)(hn:tot ps<=1048576)(hasc:Asc (fsts ps)):
  Calls Tryz.prog 50 #[v,.int .i64 area,.int .i64 owner] w fun e w'=>∃ i j:Nat,e=.returned (.tuple #[.int .i64 (i:Int),.int .i64 (j:Int)])/\ZkR (fsts ps) (keyB area owner 0) i/\ZkR (fsts ps) (keyB area owner 7) j/\Below w.heap.size w w':=by
 have hfl:(fsts ps).length=ps.length:=by simp [fsts]
 have HS:=hide (fun W (hb:Below w.heap.size w W) (key:Int)=>by
  have h:=ZlG v ps hi (keyB area owner key,.slice none 0 0) W (hv.below hb hhi) (YAK hhi hb.size) hn ⟨YAZ _ _ _ _,by intro k hk;simp [Value.ownBlock] at hk⟩ (fun s t h1 h2=>ZiI hasc _ s t h1 (by rw [hfl];exact h2));exact h.mono (R':=fun e w'=>∃ (i:Nat) (f:Bool),e=.returned (.tuple #[.int .i64 (i:Int),.bool f])/\ZkR (fsts ps) (keyB area owner key) i/\Below W.heap.size W w') (fun e w' ⟨i,f,h1,h2,h3,h4,_,h5⟩=>⟨i,f,h1,⟨by rw [hfl];exact h2,h3,fun t a b=>h4 t a (by rw [<-hfl];exact b)⟩,h5⟩))
 unfold recC at HS;obtain⟨a,c,rfl⟩:=Zac hv.row;clear hv hn hasc hfl;have H0:=hide (fun W hb=>HS.out W hb 0);have H7:=hide (fun W hb=>HS.out W hb 7);clear HS
 go_enter Tryz.func50,Tryz.ntmps50
 go_wp2_with fail
 refine (H0.out _ (YAC _ _)).mono ?_;rintro e w1 ⟨i,f,rfl,hc0,b1⟩;have C0:=hide hc0;clear hc0
 go_wp2_with fail
 refine (H7.out _ b1).mono ?_;rintro e w2 ⟨j,f2,rfl,hc7,b2⟩;have C7:=hide hc7;have B2:Below w.heap.size w w2:=b1.trans (b2.mono b1.size);clear hc7 b1 b2;go_wp2;go_ret2;exact⟨i,j,rfl,C0.out,C7.out,B2⟩
theorem ZmN (f g:RecD->Bool)(hfg:∀ p,f p=true->g p=false)(xs:List RecD):totD (xs.filter f)+totD (xs.filter g)<=totD xs:=by
 induction xs with
 | nil=>simp [totD]
 | cons x xs ih=>
  have h:=hfg x;rw [List.filter_cons,List.filter_cons,Zda];cases hf:f x <;> cases hg:g x <;> simp_all [Zda] <;> omega
theorem Zrk (xs:List RecD)(r:RecD):totD (putD xs r)<=totD xs+(1+r.near.length):=by
 unfold putD;rw [ZcB,ZcB];have h:=ZmN (fun x=>Zak x r) (fun x=>Zak r x) (fun x hx=>ZdM hx) xs;have h1:totD [r]=1+r.near.length:=by simp [totD]
 omega
theorem ZhF :∀ (ts xs:List RecD),totD (ts.foldl putD xs)<=totD xs+totD ts
 | [],xs=>by simp [totD]
 | t::ts,xs=>by
  rw [List.foldl_cons];have h1:=ZhF ts (putD xs t);have h2:=Zrk xs t;rw [Zda];omega
structure PASt (w wr:World) (lo:Nat) (v x:Value) (ps ts qs:List RP) (k:Nat):Prop where
 eq:fsts qs=(fsts (ts.take k)).foldl putD (fsts ps)
 own:RecsOwn wr lo wr.heap.size x qs
 near:∀ q∈qs,(∃ p∈ps,q.2=p.2)\/∃ t∈ts.take k,q.2=t.2
 keep:∀ j,j<w.heap.size->v.ownBlock≠some j->wr.heap[j]? = w.heap[j]?
 row:∀ j,x.ownBlock=some j->v.ownBlock=some j\/w.heap.size<=j
 bel:Below lo w wr
theorem PASt.step {w wr w2:World}{x x':Value}{ts qs qs':List RP}{l:RP}{o:Obj}(h:PASt w wr lo v x ps ts qs k)(hl:ts[k]? = some l)(hlo:lo<=w.heap.size)
  (he:fsts qs'=putD (fsts qs) l.1) (ho:RecsOwn w2 lo w2.heap.size x' qs') (hb:Below lo (wr.alloc o) w2) (hp:PutFine x qs l (wr.alloc o) w2 x' qs'):PASt w w2 lo v x' ps ts qs' (k+1) where
 eq:=by
  have e:fsts (ts.take (k+1))=fsts (ts.take k)++[l.1]:=map_take hl;rw [he,h.eq,e,List.foldl_append];rfl
 own:=ho
 near:=fun q hq=>by
  obtain⟨hk,e⟩:=YAD.1 hl;rcases hp.near q hq with h1 | h1
  ·rcases h.near q h1 with h2 | ⟨t,ht,h3⟩
   ·exact .inl h2
   ·exact .inr ⟨t,by rw [YAI hk];exact List.mem_append_left _ ht,h3⟩
  ·exact .inr ⟨l,by rw [YAI hk,e];simp,h1⟩
 keep:=fun j hj hv=>by
  have hs:=h.bel.size;have hx:x.ownBlock≠some j:=fun e=>by
   rcases h.row j e with h1 | h1
   ·exact hv h1
   ·omega
  rw [hp.keep j (by simp;omega) hx,YAH _ _ _ (by omega),h.keep j hj hv]
 row:=fun j hj=>by
  have hs:=h.bel.size;rcases hp.row j hj with h1 | h1
  ·exact h.row j h1
  ·exact .inr (by simp at h1;omega)
 bel:=(h.bel.alloc (by have:=h.bel.size;omega) _).trans hb
theorem ZpM (xs:List RecD)(k:Nat):totD (xs.take k)<=totD xs:=by
 have e:xs=xs.take k++xs.drop k:=(YAc k xs).symm;have h2:totD xs=totD (xs.take k)+totD (xs.drop k):=by
  conv=>lhs;rw [e]
  rw [ZcB]
 omega
theorem Znx (v u:Value)(ps ts:List RP)(lo:Nat)(w:World)(hv:RecsOwn w lo w.heap.size v ps)(hu:Zbu w u ts w.heap.size)(hlo:lo<=w.heap.size)(hn:tot ps+tot ts<=1048576)(hasc:Asc (fsts ps))(hnr:∀ t∈ts,ZaF w lo w.heap.size t)(hap:∀ p∈ps,∀ t∈ts,ZeH p t)(hta:ts.Pairwise ZeH)(hne:∀ j,v.ownBlock=some j->u.ownBlock≠some j):
  Calls Tryz.prog 17 #[v,u] w fun e w'=>∃ x qs,e=.returned x/\PASt w w' lo v x ps ts qs ts.length:=by
 have hnl:=Zbj ts;obtain⟨a,cap,rfl⟩:=hu.shape;have HU:=hide hu;have HV:=hide hv;have HNR:=hide hnr;have HAP:=hide hap;have HTA:=hide hta;have HNE:=hide hne;have HAS:=hide hasc;have ST0:=hide (show PASt w w lo v v ps ts ps 0 from ⟨by simp [fsts],hv,fun q hq=>.inl ⟨q,hq,rfl⟩,fun _ _ _=>rfl,fun j h=>.inl h,YAC _ _⟩);clear hu hnr hap hta hne hasc hv
 go_enter Tryz.func17,Tryz.ntmps17
 go_wp2
 go_loopw [9,0] (fun i o wr=>∃ (k:Nat) (x:Value) (qs:List RP),k<=ts.length/\i=.int .i64 k/\o=x/\Hid (PASt w wr lo v x ps ts qs k)) (fun i _ _=>ts.length-(intOf i).toNat)
 case atStart=>exact ⟨0,v,ps,by omega,rfl,rfl,ST0⟩
 case round=>
  obtain⟨k,x,qs,hk,rfl,rfl,ST⟩:=hrel;have hsz:=ST.out.bel.size;obtain⟨xa,xc,hxe⟩:=Zac ST.out.own.row;by_cases hlt:k<ts.length
  ·obtain ⟨l,hl⟩:∃ l,ts[k]? = some l:=⟨ts[k],YAA hlt⟩;have hlm:=YAG hl;obtain⟨b,off,cap',hve,hbb,c0,c1,c2,c3,c4,c5,c6,c7,hnr⟩:=HU.out.cells k l hl;cases hve;have hkb:wr.heap[b]? = w.heap[b]? := ST.out.keep b hbb (fun e=>HNE.out b e rfl);have hcell:∀ j,wr.cell? ⟨b,j,none⟩=w.cell? ⟨b,j,none⟩:=fun j=>by simp only [World.cell?,hkb]
   rw [<-hcell] at c0 c1 c2 c3 c4 c5 c6 c7;obtain⟨pa,pc,hpn⟩:=Zat.shape hnr;rw [hpn] at c5;have hbr:¬b=wr.heap.size:=by omega
   have hki:(0:Int)<=(k:Int):=by omega
   have hkj:(k:Int)<(ts.length:Int):=by omega
   have hal:=(ST.out.own.below ((YAC _ _).alloc (YA _) (.cells #[.int .i64 l.1.area,.int .i64 l.1.kind,.int .i64 l.1.owner,.int .i64 l.1.key,.int .i64 l.1.seq,.slice pa l.1.near.length pc,.int .i64 l.1.cost,.bool l.1.far] 37)) (YA _)).wide (YA _) (show wr.heap.size<=(wr.alloc (.cells #[.int .i64 l.1.area,.int .i64 l.1.kind,.int .i64 l.1.owner,.int .i64 l.1.key,.int .i64 l.1.seq,.slice pa l.1.near.length pc,.int .i64 l.1.cost,.bool l.1.far] 37)).heap.size by simp);have hnl2:ZaF (wr.alloc (.cells #[.int .i64 l.1.area,.int .i64 l.1.kind,.int .i64 l.1.owner,.int .i64 l.1.key,.int .i64 l.1.seq,.slice pa l.1.near.length pc,.int .i64 l.1.cost,.bool l.1.far] 37)) lo (wr.alloc (.cells #[.int .i64 l.1.area,.int .i64 l.1.kind,.int .i64 l.1.owner,.int .i64 l.1.key,.int .i64 l.1.seq,.slice pa l.1.near.length pc,.int .i64 l.1.cost,.bool l.1.far] 37)).heap.size l:=by
    have h0:=HNR.out l hlm;refine⟨Zal h0.1 (fun j hj=>?_),fun j hj=>by have:=h0.2 j hj;simp;omega⟩;have hjw:=h0.2 j hj;rw [YAH _ _ _ (by omega),ST.out.keep j hjw (fun e=>Zc4 h0 HV.out.row j hj e.symm)]
   have hapl:∀ q∈qs,ZeH q l:=fun q hq=>by
    rcases ST.out.near q hq with ⟨p,hp,e⟩ | ⟨t,ht,e⟩
    ·intro j hj;rw [e] at hj;exact HAP.out p hp l hlm j hj
    ·intro j hj;rw [e] at hj;obtain⟨i,hi⟩:=List.getElem?_of_mem ht;have hik:i<k:=by have:=(YAD.1 hi).1;simp at this;omega
     rw [YAn hik] at hi;obtain⟨h1,e1⟩:=YAD.1 hi;obtain⟨h2,e2⟩:=YAD.1 hl;have:=YAa.1 HTA.out i k h1 h2 hik;rw [e1,e2] at this;exact this j hj
   have htq:tot qs<=1048576:=by
    rw [ZjB,ST.out.eq];have h1:=ZhF (fsts (ts.take k)) (fsts ps);have h2:=ZpM (fsts ts) k;rw [show fsts (ts.take k)=(fsts ts).take k by simp [fsts]] at *;rw [ZjB,ZjB] at hn;omega
   have hascq:Asc (fsts qs):=by rw [ST.out.eq];exact Zes _ _ HAS.out
   have HC:=hide (ZoM _ qs lo l _ hal (by simp;omega) htq hascq hnl2 hapl);unfold recC at HC;rw [hpn] at HC;have HL:=hide hl;clear hcell hkb hal hnl2 hapl htq hascq hl hnr hpn hlm;subst hxe
   go_wp2_with fail
   refine HC.out.mono ?_;rintro e w2 ⟨x',qs',rfl,he,ho,hb,hp⟩;have ST2:=hide (ST.out.step HL.out hlo he ho hb hp);obtain⟨xa2,xc2,rfl⟩:=Zac ho.row;clear he ho hb hp c0 c1 c2 c3 c4 c5 c6 c7;go_wp2;go_roundw
   case rel=>exact ⟨k+1,_,qs',by omega,by go_num,rfl,ST2⟩
   case measure=>simp [intOf];omega
  ·have KN:=hide (show k=ts.length by omega);subst hxe;go_wp2;go_ret;have h1:=ST.out;rw [KN.out] at h1;exact⟨_,qs,rfl,h1⟩
theorem Zhp {α:Type}{ord:α->α->Int}(tr:∀ x y z,ord x y<0->ord y z<0->ord x z<0){ls:List α}(h:ascB ord ls=true):ls.Pairwise (fun x y=>ord x y<0):=by
 have step:∀ k (hk:k+1<ls.length),ord (ls[k]'(by omega)) ls[k+1]<0:=fun k hk=>by
  have h1:Zce ord ls (k+1)=true:=List.all_eq_true.1 h (k+1) (List.mem_range.2 hk);rw [ZbX (YAA (by omega)) (YAA hk)] at h1;exact of_decide_eq_true h1
 have all:∀ (d i:Nat) (hd:i+d+1<ls.length),ord (ls[i]'(by omega)) ls[i+d+1]<0:=by
  intro d
  induction d with
  | zero=>intro i hd;exact step i hd
  | succ d ih=>
   intro i hd;exact tr _ _ _ (ih i (by omega)) (step (i+d+1) (by omega))
 rw [YAa];intro i j hi hj hij;have:=all (j-i-1) i (by omega);have e:i+(j-i-1)+1=j:=by omega
 simpa [e] using this
theorem Zpb (l m:Lk):ordL l m<0↔l.a<m.a\/l.a=m.a/\(l.b<m.b\/l.b=m.b/\l.r<m.r):=by
 unfold ordL orN orN orN orN cmpN
 split <;> (try split) <;> (try split) <;> (try split) <;> (try split) <;> (try split) <;> (try split) <;> omega
theorem ZlA (l m:Th):ordT l m<0↔l.k<m.k\/l.k=m.k/\l.o<m.o:=by
 unfold ordT orN orN orN cmpN
 split <;> (try split) <;> (try split) <;> (try split) <;> (try split) <;> (try split) <;> omega
theorem Znp {n:Int}(h:Zb1 n ls=true):ls.Pairwise (fun x y=>ordL x y<0):=by
 unfold Zb1 at h;simp only [YAJ] at h;exact Zhp (fun x y z h1 h2=>by rw [Zpb] at *;omega) h.2
theorem ZlL {n:Int}{ts:List Th}(h:Zbt n ts=true):ts.Pairwise (fun x y=>ordT x y<0):=by
 unfold Zbt at h;simp only [YAJ] at h;exact Zhp (fun x y z h1 h2=>by rw [ZlA] at *;omega) h.2
theorem Zfs {x y:RecD}(h:x.area≠y.area\/x.kind≠y.kind\/x.owner≠y.owner\/x.key≠y.key):difK x y:=by
 unfold difK;cases e:Zap x y with
 | false=>rfl
 | true=>
  have:=(Zhi x y).1 e;rcases h with h | h | h | h
  ·exact absurd this.1 h
  ·exact absurd this.2.1 h
  ·exact absurd this.2.2.1 h
  ·exact absurd this.2.2.2 h
def TyK (W W':World):Prop:=∀ (k:Nat) (cs:Array Value) (t:TypeId) (fr:Nat × Nat),W.heap[k]? = some (.cells cs t fr)->t≠42->W'.heap[k]? = W.heap[k]?
theorem TyK.refl (W:World):TyK W W:=fun _ _ _ _ _ _=>rfl
theorem TyK.trans {A B C:World}(h:TyK A B)(k:TyK B C):TyK A C:=fun j cs t fr h1 h2=>by
 have e:=h j cs t fr h1 h2;rw [<-e];exact k j cs t fr (e.trans h1) h2
theorem TyK.below (h:Below W.heap.size W W'):TyK W W':=fun j _ _ _ h1 _=>h.block j (Zab h1)
theorem TyK.grown {base n:Nat}{xs:List Value}(h:W.ownsRow base 42 6 v n xs)(hg:W.grownBy W' v.ownBlock):TyK W W':=fun j cs t fr h1 h2=>by
 refine hg.block j (Zab h1) (fun e=>?_);rcases h.2 with ⟨e0,_⟩ | ⟨g,cap,cur,e0,_,hh,_⟩
 ·rw [e0] at e;simp [Value.ownBlock] at e
 ·rw [e0] at e;simp [Value.ownBlock] at e;subst e;rw [hh] at h1;injection h1 with h1;injection h1 with _ h3 _;exact h2 h3.symm
theorem TyK.ways (h:TyK W W'){ps:List WP}(hw:WaysOwn W lo hi v ps):WaysOwn W' lo hi v ps:=hw.typed (by decide) (by decide) h
theorem TyK.hop (h:TyK W W'){q:QP}(hq:Zbv W lo hi q):Zbv W' lo hi q:=⟨Zgh hq.1 (by decide) h,hq.2⟩
theorem Zgs {S:Int->WayD->Prop}{ds:List WayD}(h:ZaE S ds)(hS:∀ to w,S to w->GoodW w/\w.to=to):ZkS ds:=h.good hS
theorem Zqv {α:Type}(a b:Value)(xs ys:List α):ZbZ [(a,xs),(b,ys)]=xs++ys:=by simp [ZbZ]
theorem Znl {α:Type}(a b c:Value)(xs ys zs:List α):ZbZ [(a,xs),(b,ys),(c,zs)]=xs++ys++zs:=by simp [ZbZ]
theorem Zmd {p:WP}(h:ZbA W lo hi p):∀ u∈encW p,u.oneCell'=true:=by
 obtain⟨a,c,e⟩:=Zac h.1;intro u hu;have:p=(p.1,.slice a p.1.hops.length c):=by rw [<-e]
 rw [this] at hu;exact Zdh _ _ _ _ u hu
theorem Zi9 {p:QP}(h:Zbv W lo hi p):∀ u∈encQ p,u.oneCell'=true:=by
 obtain⟨a,c,e⟩:=Zac h.1;intro u hu;have:p=(p.1,.slice a p.1.hops.length c):=by rw [<-e]
 rw [this] at hu;exact Zep _ _ _ _ u hu
theorem Zlm (v u:Value)(ps:List RP)(al:List Int)(hi:Nat)(border:Bool)(src:Int)(w:World)(hv:RecsIn w hi v ps)(ha:ZaI w u al hi)(hhi:hi<=w.heap.size)(hn:tot ps<=1048576)(hal:al.length<=1048576)(hs:Zax (fsts ps)=true):
  Calls Tryz.prog 30 #[v,u,.bool border,.int .i64 src] w fun e w'=>∃ x qs,e=.returned x/\Zdd (fsts ps) al border src (Za7 qs)/\RtsOwn w' w.heap.size w'.heap.size x qs/\Below w.heap.size w w':=by
 obtain⟨a1,c1,rfl⟩:=Zac hv.row;obtain⟨a2,c2,rfl⟩:=ha.shape;have HWI:=hide (Ze3 (.slice a1 ps.length c1) (.slice a2 al.length c2) ps al hi src w hv ha hhi hn hal);have HBY:=hide (fun W (hb:Below w.heap.size w W)=>Zhd (.slice a1 ps.length c1) (.slice a2 al.length c2) ps al hi border src W (hv.below hb hhi) (Zav.later ha hb hhi) (YAK hhi hb.size) hn hal);have HTH:=hide (fun W vc cs ds es hc lo2 hi2 (hb:Below w.heap.size w W) hw hh2 hnw hgd hge=>Zln (.slice a1 ps.length c1) vc ps cs ds es hc hi lo2 hi2 src W (hv.below hb hhi) (YAK hhi hb.size) hw hh2 hnw hs hgd hge);clear hv ha hs
 go_enter Tryz.func30,Tryz.ntmps30
 go_wp2_with fail
 refine HWI.out.mono ?_;rintro e w1 ⟨uw,ws,rfl,hbw,how,b1⟩;obtain⟨wsa,wsc,rfl⟩:=Zac how.row;have hb1:=b1.size;have HW1:=hide how;have HBW:=hide hbw;have htw:=ZiL hbw (fun to d h=>Za1 h);clear how hbw HWI
 go_wp2_with fail
 refine (HBY.out _ b1).mono ?_;rintro e w2 ⟨ub,bs,rfl,hbb,hob,b2⟩;obtain⟨bsa,bsc,rfl⟩:=Zac hob.row;have hb2:=b2.size;have htb:=ZiL hbb (fun to d h=>Zby h);have B2:Below w.heap.size w w2:=b1.trans (b2.mono hb1);have how:=HW1.out.below b2 (YA _)
 -- the concatenated ways
 have BL:Below w2.heap.size w2 (w2.alloc (.cells #[.slice wsa ws.length wsc,.slice bsa bs.length bsc] 102)):=(YAC _ _).alloc (YA _) _;have hxl:=YAE w2 (.cells #[.slice wsa ws.length wsc,.slice bsa bs.length bsc] 102);have hwl:=ZgT ws;have hbl:=ZgT bs;have HCC:=hide (Zk4 [(.slice wsa ws.length wsc,ws),(.slice bsa bs.length bsc,bs)] w2.heap.size (w2.alloc (.cells #[.slice wsa ws.length wsc,.slice bsa bs.length bsc] 102))
  (fun j x hj=>by
   have h:=Zaa hxl j;rw [h]
   match j,hj with
   | 0,hj=>simp at hj;subst hj;rfl
   | 1,hj=>simp at hj;subst hj;rfl
   | j+2,hj=>simp at hj)
  (fun x hx=>by
   simp only [YAb,List.not_mem_nil,or_false] at hx;rcases hx with rfl | rfl
   ·exact ⟨_,how.row.alloc _⟩
   ·exact ⟨_,hob.row.alloc _⟩)
  (fun x hx=>by
   simp only [YAb,List.not_mem_nil,or_false] at hx;rcases hx with rfl | rfl
   ·exact fun p hp=>Zmd (how.nears p hp)
   ·exact fun p hp=>Zmd (hob.nears p hp))
  (by simp [sumL];omega) (by simp) (by simp))
 rw [Zqv,YAN] at HCC;have HB2:=hide B2;have HOW:=hide how;have HOB:=hide hob;have HBB:=hide hbb;have HBL:=hide BL;clear how hob hbb BL hxl HBY HW1 B2
 go_wp2_with fail
 refine HCC.out.mono ?_;rintro e w3 ⟨vc,rfl,hoc,b3⟩;obtain⟨ca,cc,rfl⟩:=Zac hoc;have hs2:(w2.alloc (.cells #[.slice wsa ws.length wsc,.slice bsa bs.length bsc] 102)).heap.size=w2.heap.size+1:=by simp
 have hb3:=b3.size;have B3:Below w2.heap.size w2 w3:=HBL.out.trans (b3.mono (by omega));have h23:=B3.size;have how3:=HOW.out.below B3 (by omega);have hob3:=HOB.out.below B3 (YA _);have hcat:WaysOwn w3 w.heap.size w3.heap.size (.slice ca (ws.length+bs.length) cc) (ws++bs):=⟨by rw [YAN];exact Zaf hoc (by omega),fun k hk=>(hoc.lt k hk).2,fun p hp=>by
  rcases YAF.1 hp with h1 | h1
  ·exact (how3.nears p h1).wide (YA _) (by omega)
  ·exact (hob3.nears p h1).wide hb1 (by omega),by
  rw [YAM];refine⟨how3.apart,hob3.apart,fun a ha b hb k hk e=>?_⟩;have h1:=(how3.nears a ha).2 k hk;have h2:=((hob3.nears b hb).1.lt k e).1;omega⟩
 have HT3:=hide (HTH.out w3 (.slice ca (ws.length+bs.length) cc) (ws++bs) (Zaj ws) (Zaj bs) (by simp [Zaj]) w.heap.size w3.heap.size (HB2.out.trans (B3.mono (by omega))) hcat (YA _) (by rw [ZlN];omega) (Zgs HBW.out (fun to d h=>Za1 h)) (Zgs HBB.out (fun to d h=>Zby h)));have HW3:=hide how3;have HO3:=hide hob3;have HB3:=hide B3;have HS2:=hide hs2;clear how3 hob3 hcat hoc b3 HTH HCC HOW HOB B3 hs2 HBL
 go_wp2_with fail
 refine HT3.out.mono ?_;rintro e w4 ⟨vt,ts,rfl,holt,hbt,hot,b4⟩;obtain⟨ta,tc,rfl⟩:=Zac hot.row;have hb4:=b4.size;have how4:=HW3.out.below b4 (by omega);have hob4:=HO3.out.below b4 (by omega);have HI1:=hide (Zh9 (.slice wsa ws.length wsc) ws w.heap.size w1.heap.size 1 src w4 how4 (by omega) (by omega));have HW4:=hide how4;have HO4:=hide hob4;have HT4:=hide hot;have HBT:=hide hbt;have HOL:=hide holt;have B4:=hide (HB2.out.trans ((HB3.out.trans (b4.mono (by omega))).mono (by omega)));clear how4 hob4 hot hbt holt b4 HT3 HW3 HO3 HB3 HB2
 go_wp2_with fail
 refine HI1.out.mono ?_;rintro e w5 ⟨v1,rfl,ho1,b5⟩;obtain⟨n1a,n1c,rfl⟩:=Zac ho1;have hb5:=b5.size;have HI2:=hide (Zh9 (.slice bsa bs.length bsc) bs w1.heap.size w2.heap.size 2 src w5 (HO4.out.below b5 (by omega)) (by omega) (by omega));have HN1:=hide ho1;have HB5:=hide b5;clear ho1 b5 HI1
 go_wp2_with fail
 refine HI2.out.mono ?_;rintro e w6 ⟨v2,rfl,ho2,b6⟩;obtain⟨n2a,n2c,rfl⟩:=Zac ho2;have hb6:=b6.size;have r1:=Zad HN1.out b6 (YA _);have B56:Below w4.heap.size w4 w6:=HB5.out.trans (b6.mono hb5);have r3:=Zad HT4.out.row B56 (YA _);have hw6:=HW4.out.below B56 (by omega);have hb6':=HO4.out.below B56 (by omega);have ht6:=HT4.out.below B56 (YA _);have hxl:=YAE w6 (.cells #[.slice n1a (Zbc 1 src ws).length n1c,.slice n2a (Zbc 2 src bs).length n2c,.slice ta ts.length tc] 38);have q1:=Zif hw6 1 src;have q2:=Zif hb6' 2 src;have hl1:=Zig 1 src ws;have hl2:=Zig 2 src bs;have hl3:ts.length<=9:=by
  have h:=Ziv HBT.out.1 (fun d hd=>by
   obtain⟨y,hy,rfl⟩:=YAR.1 hd;obtain⟨b,hb,rfl⟩:=YAR.1 hy;exact (HOL.out b hb).node)
  simpa [Za7] using h
 have HCQ:=hide (Zk2 [(.slice n1a (Zbc 1 src ws).length n1c,Zbc 1 src ws),(.slice n2a (Zbc 2 src bs).length n2c,Zbc 2 src bs),(.slice ta ts.length tc,ts)] w6.heap.size (w6.alloc (.cells #[.slice n1a (Zbc 1 src ws).length n1c,.slice n2a (Zbc 2 src bs).length n2c,.slice ta ts.length tc] 38))
  (fun j x hj=>by
   have h:=Zaa hxl j;rw [h]
   match j,hj with
   | 0,hj=>simp at hj;subst hj;rfl
   | 1,hj=>simp at hj;subst hj;rfl
   | 2,hj=>simp at hj;subst hj;rfl
   | j+3,hj=>simp at hj)
  (fun x hx=>by
   simp only [YAb,List.not_mem_nil,or_false] at hx;rcases hx with rfl | rfl | rfl
   ·exact ⟨_,r1.alloc _⟩
   ·exact ⟨_,ho2.alloc _⟩
   ·exact ⟨_,r3.alloc _⟩)
  (fun x hx=>by
   simp only [YAb,List.not_mem_nil,or_false] at hx;rcases hx with rfl | rfl | rfl
   ·exact fun p hp=>Zi9 (q1 p hp)
   ·exact fun p hp=>Zi9 (q2 p hp)
   ·exact fun p hp=>Zi9 (ht6.nears p hp))
  (by simp [sumL];omega) (by simp) (by simp))
 rw [Znl,YAN,YAN] at HCQ;have HQ1:=hide q1;have HQ2:=hide q2;have HA1:=hide (Zgu hw6 1 src);have HA2:=hide (Zgu hb6' 2 src);have HT6:=hide ht6;have B6:=hide (B4.out.trans (B56.mono (by omega)));have BZ:=hide ((YAC w6.heap.size w6).alloc (YA _) (.cells #[.slice n1a (Zbc 1 src ws).length n1c,.slice n2a (Zbc 2 src bs).length n2c,.slice ta ts.length tc] 38));clear hxl q1 q2 hw6 hb6' ht6 r1 r3 ho2 b6 B56 HI2 HN1 HB5 HW4 HO4 HT4 B4
 go_wp2_with fail
 refine HCQ.out.mono ?_;rintro e w7 ⟨x,rfl,hox,b7⟩;obtain⟨xa,xc,rfl⟩:=Zac hox;have hs6:=BZ.out.size;have B67:Below w6.heap.size w6 w7:=BZ.out.trans (b7.mono hs6);have hb7:=B67.size;have hlow:=B6.out.size;have hw67:w.heap.size<=w6.heap.size:=by omega
 have RO:RtsOwn w7 w.heap.size w7.heap.size (.slice xa ((Zbc 1 src ws).length+(Zbc 2 src bs).length+ts.length) xc) (Zbc 1 src ws++Zbc 2 src bs++ts):=⟨by rw [YAN,YAN];exact Zaf hox (by omega),fun k hk=>(hox.lt k hk).2,fun p hp=>by
  rcases YAF.1 hp with h0 | h0
  ·rcases YAF.1 h0 with h1 | h1
   ·exact ((HQ1.out p h1).keep (fun j _ h2 h3=>B67.block j h3)).wide (YA _) (by omega)
   ·exact ((HQ2.out p h1).keep (fun j _ h2 h3=>B67.block j h3)).wide hb1 (by omega)
  ·exact ((HT6.out.nears p h0).keep (fun j _ h2 h3=>B67.block j h3)).wide (by omega) (by omega),by
  rw [YAM,YAM];refine⟨⟨HA1.out,HA2.out,fun a ha b hb k hk e=>?_⟩,HT6.out.apart,fun a ha b hb k hk e=>?_⟩
  ·have h1:=(HQ1.out a ha).2 k hk;have h2:=((HQ2.out b hb).1.lt k e).1;omega
  ·have h2:=((HT6.out.nears b hb).1.lt k e).1;rcases YAF.1 ha with h0 | h0
   ·have h1:=(HQ1.out a h0).2 k hk;omega
   ·have h1:=(HQ2.out a h0).2 k hk;omega⟩
 have HRO:=hide RO;have HIR:=hide (show Zdd (fsts ps) al border src (Za7 (Zbc 1 src ws++Zbc 2 src bs++ts)) from ⟨Zaj ws,Zaj bs,(Za7 ts).map wOf,HBW.out,HBB.out,HBT.out,by rw [Zbm,Zbm,Zie,Zie,Zq7 HOL.out]⟩);have HBF:=hide (B6.out.trans (B67.mono hw67));clear RO hox b7 B67 HQ1 HQ2 HA1 HA2 HT6 BZ HCQ B6;go_wp2;go_ret
 first
  | exact ⟨_,_,rfl,HIR.out,HRO.out,HBF.out⟩
  | exact ⟨_,rfl,_,HIR.out,HRO.out,HBF.out⟩
def Zcm (r:RecD):RecD := { r with seq:=1 }
def ZeM (p:RP):RP:=(Zcm p.1,p.2)
def mixP (ps:List RP)(k:Nat):List RP:=(ps.take k).map ZeM++ps.drop k
theorem mix_at {p:RP}(h:ps[k]? = some p):(mixP ps k)[k]? = some p:=by
 obtain⟨hk,e⟩:=YAD.1 h;unfold mixP;rw [List.getElem?_append_right (by simp;omega)];simp [YAQ (Nat.le_of_lt hk),h]
theorem Zqz {p:RP}(h:ps[k]? = some p):mixP ps (k+1)=(mixP ps k).set k (ZeM p):=by
 obtain⟨hk,e⟩:=YAD.1 h;have hd:ps.drop k=p::ps.drop (k+1):=by rw [<-e];exact YAl hk
 unfold mixP;rw [YAI hk,e,YAf,List.set_append_right _ _ (by simp;omega),hd];simp [YAQ (Nat.le_of_lt hk)]
theorem Zj7 {α:Type}{enc:α->List Value}{sz:Nat}(hlen:∀ a,(enc a).length=sz):∀ (xs:List α) (k j:Nat) (x y:α) (u:Value),xs[k]? = some x->j<sz->enc y=(enc x).set j u->(flat enc xs).set (k*sz+j) u=flat enc (xs.set k y)
 | [],k,j,x,y,u,h,_,_=>by simp at h
 | a::xs,0,j,x,y,u,h,hj,he=>by
  have:a=x:=by simpa using h
  subst this;rw [YAs,ZbJ,ZbJ,he,Nat.zero_mul,Nat.zero_add,List.set_append_left _ _ (by rw [hlen];exact hj)]
 | a::xs,k+1,j,x,y,u,h,hj,he=>by
  have h1:xs[k]? = some x:=by simpa using h
  rw [YAu,ZbJ,ZbJ,List.set_append_right _ _ (by rw [hlen,Nat.succ_mul];omega),hlen, <-Zj7 hlen xs k j x y u h1 hj he];congr 2;rw [Nat.succ_mul];omega
theorem Zkq (v:Value)(ps:List RP)(lo:Nat)(w:World)(hv:RecsOwn w lo w.heap.size v ps)(hl:ps.length<=1048576):
  Calls Tryz.prog 18 #[v] w fun e w'=>e=.returned v/\RecsOwn w' lo w'.heap.size v (ps.map ZeM)/\w.grownBy w' v.ownBlock:=by
 obtain⟨a,c,rfl⟩:=Zac hv.row;have HV:=hide hv;have R0:=hide (show w.ownsRow lo 37 8 (.slice a ps.length c) ps.length (flat encP (mixP ps 0)) by simp only [mixP,List.take_zero,List.map_nil,List.nil_append,List.drop_zero];exact hv.row);have G0:=hide (Zcq w (Value.slice a ps.length c).ownBlock);clear hv
 go_enter Tryz.func18,Tryz.ntmps18
 go_wp2
 go_loopw [6] (fun i wr=>∃ k:Nat,k<=ps.length/\i=.int .i64 k/\Hid (wr.ownsRow lo 37 8 (.slice a ps.length c) ps.length (flat encP (mixP ps k)))/\Hid (w.grownBy wr (Value.slice a ps.length c).ownBlock)) (fun i _=>ps.length-(intOf i).toNat)
 case atStart=>exact ⟨0,by omega,rfl,R0,G0⟩
 case round=>
  obtain⟨k,hk,rfl,RW,GW⟩:=hrel;by_cases hlt:k<ps.length
  ·obtain ⟨p,hp⟩:∃ p,ps[k]? = some p:=⟨ps[k],YAA hlt⟩;obtain⟨g,cap,hve,hg1,hg2⟩:=Ze7 RW.out (by omega);cases hve;obtain⟨u,hu⟩:=Zbe RW.out (k*8+4) (by omega);have hf:=RW.out.frozenAt (k*8+4);have R1:=hide ((RW.out.stored (k*8+4) (.int .i64 1)).1);have HF:=hide (Zj7 Zay (mixP ps k) k 4 p (ZeM p) (.int .i64 1) (mix_at hp) (by omega) rfl);have HM:=hide (Zqz hp);have G1:=hide (Zai GW.out (Zaw wr g (k*8+4) (.int .i64 1)));have hki:(0:Int)<=(k:Int):=by omega
   have hkj:(k:Int)<(ps.length:Int):=by omega
   clear hp;go_wp2;go_roundw
   case rel=>exact ⟨k+1,by omega,by go_num,hide (by rw [HM.out, <-HF.out];exact R1.out),G1⟩
   case measure=>simp [intOf];omega
  ·have KN:=hide (show mixP ps k=ps.map ZeM by
    unfold mixP;rw [YAL (by omega),List.drop_of_length_le (by omega),List.append_nil])
   go_wp2;go_ret;refine⟨rfl,⟨?_,?_,?_,?_⟩,GW.out⟩
   ·have h:=RW.out;rw [KN.out] at h;simpa using h
   ·intro j hj;have:=HV.out.top j hj;have:=GW.out.size;omega
   ·intro q hq;obtain⟨p,hp,rfl⟩:=YAR.1 hq;have h0:=HV.out.nears p hp;refine⟨Zal h0.1 (fun j hj=>GW.out.block j (h0.2 j hj) (fun e=>Zc4 h0 HV.out.row j hj e)),fun j hj=>by have:=h0.2 j hj;have:=GW.out.size;omega⟩
   ·rw [YAm];exact HV.out.apart.imp (fun h=>h)
noncomputable def runD (al:List Int) (node:Int) (xs:List RecD) (a:Int):List RecD:=
 xs.filter (fun x=>Zak x (keyB a node 0))++(tolD xs al node a).map Zcm++xs.filter (fun x => !Zak x (keyB a node 7))
noncomputable def wbyD (al:List Int) (node:Int) (xs:List RecD) (as':List Int):List RecD:=as'.foldl (runD al node) xs
theorem Zl7 (h:ZkR xs r i):xs.take i=xs.filter (fun x=>Zak x r):=(Zk7 h.1 h.2.1 h.2.2).symm
theorem Zp9 (h:ZkR xs r i):xs.drop i=xs.filter (fun x => !Zak x r):=by
 have e:xs=xs.take i++xs.drop i:=(YAc i xs).symm;have h1:(xs.take i).filter (fun x => !Zak x r)=[]:=by
  rw [List.filter_eq_nil_iff];intro x hx;rw [Zl7 h] at hx;simp [(YAP.1 hx).2]
 have h2:(xs.drop i).filter (fun x => !Zak x r)=xs.drop i:=by
  rw [List.filter_eq_self];intro x hx;obtain⟨j,hj⟩:=List.getElem?_of_mem hx;rw [List.getElem?_drop] at hj;have hl:i+j<xs.length:=(YAD.1 hj).1;have hn:=h.2.2 (i+j) (by omega) hl;cases hb:Zak x r with
  | false=>rfl
  | true=>exact absurd ((Zc1 hj).2 ((Zef x r).2 hb)) hn
 conv=>rhs;rw [e,List.filter_append,h1,h2,List.nil_append]
theorem ZcK (x:RecD)(a node k:Int):Zak x (keyB a node k)=true↔x.area<a\/x.area=a/\(x.kind<2\/x.kind=2/\(x.owner<node\/x.owner=node/\x.key<k)):=by
 unfold Zak keyB;simp
theorem Zlu (h:r∈(tolD xs al node a).map Zcm):∃ to c,r=Zcm (ZbK a node to c)/\Zcl xs al node a to c/\1<=to/\to<=6:=by
 obtain⟨r0,h0,rfl⟩:=YAR.1 h;obtain⟨to,c,rfl,ht⟩:=ZdR h0;exact⟨to,c,rfl,ht,ZcA ht⟩
theorem ZpJ (xs:List RecD)(al:List Int)(node a:Int):Asc ((tolD xs al node a).map Zcm):=by
 unfold tolD
 split
 next h=>
  have hs:=(Classical.choose_spec h).1;unfold Asc at *;rw [YAm];exact hs.imp (fun h=>h)
 next h=>simp [Asc]
theorem Zpu (h:Asc xs)(a:Int):Asc (runD al node xs a):=by
 unfold runD Asc;rw [YAM,YAM];refine⟨⟨List.Pairwise.filter _ h,ZpJ _ _ _ _,?_⟩,List.Pairwise.filter _ h,?_⟩
 ·intro x hx y hy;obtain⟨to,c,rfl,_,h1,h2⟩:=Zlu hy;refine ZcG (YAP.1 hx).2 ?_;unfold Zak keyB Zcm ZbK;simp only [];simp <;> omega
 ·intro x hx y hy;have hy2:=(YAP.1 hy).2;simp only [Bool.not_eq_true',Bool.not_eq_true] at hy2;have hk:∀ z:RecD,Zak z (keyB a node 7)=true->Zak z y=true:=fun z hz=>by
   rcases ZiK z y with e | e | e
   ·exact e
   ·rw [Zfn e hz] at hy2;cases hy2
   ·rw [ZcG e hz] at hy2;cases hy2
  rcases YAF.1 hx with h1 | h1
  ·refine hk x ?_;have:=(ZcK x a node 0).1 (YAP.1 h1).2;rw [ZcK];omega
  ·obtain ⟨to,c,rfl,_,h1,h2⟩:=Zlu h1;refine hk _ ?_;rw [ZcK];simp [Zcm,ZbK];omega
theorem Zsk (xs:List RecD)(al:List Int)(node a:Int):totD ((tolD xs al node a).map Zcm)<=6:=by
 have h1:=Zjx xs al node a;have h2:∀ l:List RecD,(∀ r∈l,r.near=[])->totD (l.map Zcm)=l.length:=by
  intro l
  induction l with
  | nil=>intro _;rfl
  | cons r l ih=>
   intro h;rw [List.map_cons,Zda,ih (fun q hq=>h q (YAg _ hq))];have:(Zcm r).near=[]:=h r (List.mem_cons_self ..);rw [this];simp;omega
 rw [h2 _ (fun r hr=>by obtain ⟨to,c,rfl,_⟩:=ZdR hr;rfl)];exact h1
theorem Zsf (al:List Int)(node:Int)(xs:List RecD)(a:Int):totD (runD al node xs a)<=totD xs+6:=by
 unfold runD;rw [ZcB,ZcB];have h1:=Zsk xs al node a;have h2:=ZmN (fun x=>Zak x (keyB a node 0)) (fun x => !Zak x (keyB a node 7)) (fun x hx=>by
  have h:=(ZcK x a node 0).1 hx;have:Zak x (keyB a node 7)=true:=by rw [ZcK];omega
  simp [this]) xs
 omega
theorem ZlS (al:List Int)(node:Int):∀ (as':List Int) (xs:List RecD),totD (wbyD al node xs as')<=totD xs+6*as'.length
 | [],xs=>by simp [wbyD]
 | a::as',xs=>by
  have h1:=ZlS al node as' (runD al node xs a);have h2:=Zsf al node xs a;unfold wbyD at *;rw [List.foldl_cons,YAk];omega
theorem ZlR (al:List Int)(node:Int):∀ (as':List Int) {xs:List RecD},Asc xs->Asc (wbyD al node xs as')
 | [],xs,h=>h
 | a::as',xs,h=>by
  unfold wbyD;rw [List.foldl_cons];exact ZlR al node as' (Zpu h a)
theorem Zrt {as':List Int}(h:as'[k]? = some a):wbyD al node xs (as'.take (k+1))=runD al node (wbyD al node xs (as'.take k)) a:=by
 obtain⟨hk,e⟩:=YAD.1 h;unfold wbyD;rw [YAI hk,e,List.foldl_append];rfl
theorem cut_le {j:Nat}(h0:ZkR xs (keyB a node 0) i)(h7:ZkR xs (keyB a node 7) j):i<=j:=by
 rcases Nat.lt_or_ge j i with h | h
 ·exfalso;obtain⟨x,hx,hl⟩:=h0.2.1 j h;have hb:=(ZcK x a node 0).1 ((Zef _ _).1 hl);have hb7:Zak x (keyB a node 7)=true:=by rw [ZcK];omega
  exact h7.2.2 j (YA _) (by have:=h0.1;omega) ⟨x,hx,(Zef _ _).2 hb7⟩
 ·exact h
theorem RecsOwn.spliceR {Wa Wb:World}{m j:Nat}{u x:Value}{qs rs:List RP}(h:RecsOwn W lo W.heap.size v qs)(hb:Below W.heap.size W Wa)(hlo:lo<=W.heap.size)(hu:RecsOwn Wa m Wa.heap.size u rs)(hm:W.heap.size<=m)(hij:i<=j)
  (row:Wb.ownsRow Wa.heap.size 37 8 x (qs.take i++rs++qs.drop j).length (flat encP (qs.take i++rs++qs.drop j))) (hg:Below Wa.heap.size Wa Wb):RecsOwn Wb lo Wb.heap.size x (qs.take i++rs++qs.drop j) where
 row:=Zaf row (by have:=hb.size;omega)
 top:=fun k hk=>(row.lt k hk).2
 apart:=by
  have cross:∀ p∈qs,∀ q∈rs,∀ k,p.2.ownBlock=some k->q.2.ownBlock=some k->False:=fun p hp q hq k h1 h2=>by
   have a1:=(h.nears p hp).2 k h1;have a2:=((hu.nears q hq).1.lt k h2).1;omega
  rw [YAM,YAM];refine⟨⟨h.apart.sublist (List.take_sublist _ _),hu.apart,fun p hp q hq k h1 h2=>cross p (YAj hp) q hq k h1 h2⟩,h.apart.sublist (List.drop_sublist _ _),fun p hp q hq k h1 h2=>?_⟩;rcases YAF.1 hp with h3 | h3
  ·obtain ⟨a,ha⟩:=List.getElem?_of_mem h3;obtain⟨b,hb'⟩:=List.getElem?_of_mem hq;have hai:a<i:=by have:=(YAD.1 ha).1;simp at this;omega
   rw [YAn hai] at ha;rw [List.getElem?_drop] at hb';obtain⟨ha1,ha2⟩:=YAD.1 ha;obtain⟨hb1,hb2⟩:=YAD.1 hb';have hap:=YAa.1 h.apart a (j+b) ha1 hb1 (by omega);rw [ha2,hb2] at hap;exact hap k h1 h2
  ·exact cross q (List.mem_of_mem_drop hq) p h3 k h2 h1
 nears:=fun p hp=>by
  have hs:=hb.size;have old:∀ q∈qs,ZaF Wb lo Wb.heap.size q:=fun q hq=>((h.nears q hq).keep (fun j _ h2 _=>((hb.trans (hg.mono hs)).block j h2))).wide (YA _) (by have:=hg.size;omega);rcases YAF.1 hp with h1 | h1
  ·rcases YAF.1 h1 with h2 | h2
   ·exact old p (YAj h2)
   ·exact ((hu.nears p h2).keep (fun j _ h2 _=>hg.block j h2)).wide (by omega) hg.size
  ·exact old p (List.mem_of_mem_drop h1)
theorem Zss (v:Value)(ps:List RP)(lo:Nat)(n v1 v2:Value)(ls:List Lk)(node:Int)(w:World)(hv:RecsOwn w lo w.heap.size v ps)(hlo:lo<=w.heap.size)(h1:ZaK w v1 ls w.heap.size)(hls:ls.length<=1048576)(hn:tot ps<=100000)(hasc:Asc (fsts ps)):
  Calls Tryz.prog 20 #[v,.agg #[n,v1,v2],.int .i64 node] w fun e w'=>∃ x qs,e=.returned x/\fsts qs=(if ZiO ls node then wbyD (ZbR ls node) node (fsts ps) (ZbR ls node) else fsts ps)/\RecsOwn w' lo w'.heap.size x qs/\Below w.heap.size w w':=by
 have HBO:=hide (fun W (hb:Below w.heap.size w W)=>Zhe n v1 v2 ls node W hls (Zav.then h1 hb));have HAR:=hide (fun W (hb:Below w.heap.size w W)=>Zeu n v1 v2 ls node W hls (Zav.then h1 hb));obtain⟨va,vc,rfl⟩:=Zac hv.row;have HV:=hide hv;have hle3:=Zdw ls node;obtain⟨al,hal⟩:∃ al,al=ZbR ls node:=⟨_,rfl⟩;rw [<-hal] at HAR hle3 |-;clear hal h1 hv;have G0:=hide (YAE w (.cells #[n,v1,v2] 27));have B0:Below w.heap.size w (w.alloc (.cells #[n,v1,v2] 27)):=(YAC _ _).alloc (YA _) _;obtain⟨q,hq⟩:∃ q,q=ZiO ls node:=⟨_,rfl⟩;rw [<-hq] at HBO |-;clear hq
 go_enter Tryz.func20,Tryz.ntmps20
 go_wp2_with fail
 refine (HBO.out _ B0).mono ?_;rintro e w1 ⟨rfl,b1⟩;have B1:Below w.heap.size w w1:=B0.trans (b1.mono B0.size);have hg1:=(b1.block _ (Zab G0.out)).trans G0.out;have z0:=Zaa hg1 0;have z1:=Zaa hg1 1;have z2:=Zaa hg1 2;simp at z0 z1 z2;clear b1 hg1 G0 B0;cases q
 ·go_wp2;go_ret
  first
   | exact ⟨_,ps,rfl,by simp,(HV.out.below B1 (YA _)).wide (YA _) B1.size,B1⟩
   | exact ⟨_,rfl,ps,by simp,(HV.out.below B1 (YA _)).wide (YA _) B1.size,B1⟩
 go_wp2_with fail
 refine (HAR.out _ B1).mono ?_;rintro e w2 ⟨u,rfl,hu,b2⟩;obtain⟨ea,ec,rfl⟩:=ZcD hu;have B2:Below w.heap.size w w2:=B1.trans (b2.mono B1.size);have EA:=hide (show ZaI w2 (.slice ea al.length ec) al w2.heap.size from Zam (by rw [<-Zb7] at hu;exact hu));have ST0:=hide ((HV.out.below B2 (YA _)).wide (YA _) B2.size);have hw2:=B2.size;clear hu b2 z0 z1 z2 HAR HBO;go_wp2
 go_loopw [22,0] (fun i o wr=>∃ (k:Nat) (x:Value) (qs:List RP),k<=al.length/\i=.int .i64 k/\o=x/\Hid (fsts qs=wbyD al node (fsts ps) (al.take k))/\Hid (RecsOwn wr lo wr.heap.size x qs)/\Below w2.heap.size w2 wr) (fun i _ _=>al.length-(intOf i).toNat)
 case atStart=>exact ⟨0,_,ps,by omega,rfl,rfl,hide (by simp [wbyD]),ST0,YAC _ _⟩
 case round=>
  obtain⟨k,x,qs,hk,rfl,rfl,HM,ST,hnx⟩:=hrel;obtain⟨xa,xc,hxe⟩:=Zac ST.out.row;have hsz:=hnx.size;by_cases hlt:k<al.length
  ·obtain ⟨a,ha⟩:∃ a,al[k]? = some a:=⟨al[k],YAA hlt⟩;obtain⟨b,off,cap',hve,hbb,d0⟩:=EA.out.cell k a ha;cases hve;replace d0:=(hnx.cell hbb).trans d0;have hki:(0:Int)<=(k:Int):=by omega
   have hkj:(k:Int)<(al.length:Int):=by omega
   have HST:=hide (Zrt (al:=al) (node:=node) (xs:=fsts ps) ha);have HTT:=hide (show tot qs<=100100 by
    rw [ZjB,HM.out];have h2:=ZlS al node (al.take k) (fsts ps);rw [ZjB] at hn;simp at h2;omega)
   have HAS:=hide (show Asc (fsts qs) by rw [HM.out];exact ZlR _ _ _ hasc);have HRU:=hide (Zpt _ qs wr.heap.size a node wr ST.out.in (YA _) (by have:=HTT.out;omega) HAS.out);clear ha;subst hxe
   go_wp2_with fail
   refine HRU.out.mono ?_;rintro e w3 ⟨i,j,rfl,c0,c7,b3⟩;have C0:=hide c0;have C7:=hide c7;have hij:=cut_le c0 c7;have hfl:(fsts qs).length=qs.length:=by simp [fsts]
   have hil:i<=qs.length:=by have:=c0.1;omega
   have hjl:j<=qs.length:=by have:=c7.1;omega
   have hs3:=b3.size;clear c0 c7 hfl d0;have HBY:=hide (ZoN _ _ qs al w3.heap.size node a w3 ((ST.out.in.below b3 (YA _)).wide hs3) ((EA.out.later (hnx.trans (b3.mono hsz)) (YA _)).more (YAK hsz hs3)) (YA _) (by have:=HTT.out;omega) (by omega))
   go_wp2_with fail
   refine HBY.out.mono ?_;rintro e w4 ⟨x2,q2,rfl,ht2,o2,b4⟩;obtain⟨x2a,x2c,rfl⟩:=Zac o2.row;have HTO:=hide (ZbO.eq ht2);have hq2:=ht2.tot.1;have hfl2:(fsts q2).length=q2.length:=by simp [fsts]
   have hs4:=b4.size;have HON:=hide (Zkq _ q2 w3.heap.size w4 o2 (by omega));have O2:=hide o2;clear ht2 o2
   go_wp2_with fail
   refine HON.out.mono ?_;rintro e w5 ⟨rfl,o5,g5⟩;have hs5:=g5.size;have BB:Below wr.heap.size wr w5:=(b3.trans (b4.mono hs3)).grown g5 (by omega) (fun k hk=>by have:=(O2.out.row.lt k hk).1;omega);have HRN:=hide (ZlT _ _ qs (q2.map ZeM) i j w5 (Zaf (Zad ST.out.row BB (YA _)) (Nat.zero_le _)) (Zaf o5.row (Nat.zero_le _)) hil hjl (by have:=HTT.out;have:=Zbj qs;omega) (by simp;omega) (fun p hp=>Zec (ST.out.nears p hp)) (fun p hp=>Zec (o5.nears p hp)));have O5:=hide o5;clear o5 g5 b3 b4
   go_wp2_with fail
   refine HRN.out.mono ?_;rintro e w6 ⟨x6,rfl,ho6,b6⟩;have O6:=hide (RecsOwn.spliceR (lo:=lo) ST.out BB (by omega) O5.out hs3 hij ho6 b6);have HE6:=hide (show fsts (qs.take i++q2.map ZeM++qs.drop j)=wbyD al node (fsts ps) (al.take (k+1)) by
    rw [HST.out, <-HM.out];unfold runD;rw [<-Zl7 C0.out, <-Zp9 C7.out, <-HTO.out];simp [fsts,ZeM,Function.comp_def])
   obtain⟨q6,hq6⟩:∃ q6,q6=qs.take i++q2.map ZeM++qs.drop j:=⟨_,rfl⟩;rw [<-hq6] at O6 HE6 ho6;clear hq6;obtain⟨x6a,x6c,rfl⟩:=Zac ho6;have B6:Below w2.heap.size w2 w6:=(hnx.trans (BB.mono hsz)).trans (b6.mono (by omega));clear ho6 b6;go_wp2;go_roundw
   case rel=>exact ⟨k+1,_,_,by omega,by go_num,rfl,HE6,O6,B6⟩
   case measure=>simp [intOf];omega
  ·have KN:=hide (show al.take k=al from YAL (by omega));subst hxe;go_wp2;go_ret
   first
    | exact ⟨_,qs,rfl,by rw [HM.out,KN.out] <;> simp,ST.out,B2.trans (hnx.mono hw2)⟩
    | exact ⟨_,rfl,qs,by rw [HM.out,KN.out] <;> simp,ST.out,B2.trans (hnx.mono hw2)⟩
end Go.Proofs.YtikloccefmofdaaGreat
