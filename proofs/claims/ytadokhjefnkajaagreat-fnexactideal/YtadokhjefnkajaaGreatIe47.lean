/-
  OnceI RunM WbyI IdI
-/
import Derived.Test.YtadokhjefnkajaaGreatIe46
import Derived.Test.YtadokhjefnkajaaGreatIe18
import Derived.Test.YtadokhjefnkajaaGreatIe43
import Derived.Test.YtadokhjefnkajaaGreatIe29
import Derived.Test.YtadokhjefnkajaaGreatIe19
namespace Go.Proofs.YtadokhjefnkajaaGreat
open Go.RowKit
set_option linter.unusedSimpArgs false
set_option linter.unusedVariables false
set_option maxRecDepth 100000
set_option maxHeartbeats 8000000
def Zca (r:RecD):RecD := { r with seq:=1 }
def Zd7 (p:RP):RP:=(Zca p.1,p.2)
def mixP (ps:List RP)(k:Nat):List RP:=(ps.take k).map Zd7++ps.drop k
theorem mix_at {ps:List RP}{k:Nat}{p:RP}(h:ps[k]? = some p):(mixP ps k)[k]? = some p:=by
 obtain⟨hk,e⟩:=List.getElem?_eq_some_iff.1 h;unfold mixP;rw [List.getElem?_append_right (by simp;omega)]
 simp [Nat.min_eq_left (Nat.le_of_lt hk),h]
theorem Zoy {ps:List RP}{k:Nat}{p:RP}(h:ps[k]? = some p):mixP ps (k+1)=(mixP ps k).set k (Zd7 p):=by
 obtain⟨hk,e⟩:=List.getElem?_eq_some_iff.1 h;have hd:ps.drop k=p::ps.drop (k+1):=by rw [<-e];exact List.drop_eq_getElem_cons hk
 unfold mixP;rw [List.take_succ_eq_append_getElem hk,e,List.map_append,List.set_append_right _ _ (by simp;omega),hd]
 simp [Nat.min_eq_left (Nat.le_of_lt hk)]
theorem ZiH {α:Type}{enc:α->List Value}{sz:Nat}(hlen:∀ a,(enc a).length=sz):∀ (xs:List α) (k j:Nat) (x y:α) (u:Value),xs[k]? = some x->j<sz->enc y=(enc x).set j u->(flat enc xs).set (k*sz+j) u=flat enc (xs.set k y)
 | [],k,j,x,y,u,h,_,_=>by simp at h
 | a::xs,0,j,x,y,u,h,hj,he=>by
  have:a=x:=by simpa using h
  subst this;rw [List.set_cons_zero,ZbB,ZbB,he,Nat.zero_mul,Nat.zero_add,List.set_append_left _ _ (by rw [hlen];exact hj)]
 | a::xs,k+1,j,x,y,u,h,hj,he=>by
  have h1:xs[k]? = some x:=by simpa using h
  rw [List.set_cons_succ,ZbB,ZbB,List.set_append_right _ _ (by rw [hlen,Nat.succ_mul];omega),hlen, <-ZiH hlen xs k j x y u h1 hj he]
  congr 2
  rw [Nat.succ_mul];omega
theorem Zk1 (v:Value)(ps:List RP)(lo:Nat)(w:World)(hv:RecsOwn w lo w.heap.size v ps)(hl:ps.length<=1048576):
  Calls Tryz.prog 81 #[v] w fun e w'=>e=.returned v/\RecsOwn w' lo w'.heap.size v (ps.map Zd7)/\w.grownBy w' v.ownBlock:=by
 obtain⟨a,c,rfl⟩:=Zac hv.row;have HV:=hide hv;have R0:=hide (show w.ownsRow lo 39 8 (.slice a ps.length c) ps.length (flat encP (mixP ps 0)) by simp only [mixP,List.take_zero,List.map_nil,List.nil_append,List.drop_zero];exact hv.row)
 have G0:=hide (Zbd w (Value.slice a ps.length c).ownBlock);clear hv
 go_enter Tryz.func81,Tryz.ntmps81
 go_wp2
 go_loopw [6] (fun i wr=>∃ k:Nat,k<=ps.length/\i=.int .i64 k/\Hid (wr.ownsRow lo 39 8 (.slice a ps.length c) ps.length (flat encP (mixP ps k)))/\Hid (w.grownBy wr (Value.slice a ps.length c).ownBlock)) (fun i _=>ps.length-(intOf i).toNat)
 case atStart=>exact ⟨0,by omega,rfl,R0,G0⟩
 case round=>
  obtain⟨k,hk,rfl,RW,GW⟩:=hrel;by_cases hlt:k<ps.length
  ·obtain ⟨p,hp⟩:∃ p,ps[k]? = some p:=⟨ps[k],List.getElem?_eq_getElem hlt⟩
   obtain⟨g,cap,hve,hg1,hg2⟩:=ZbQ RW.out (by omega)
   cases hve
   obtain⟨u,hu⟩:=ZaG RW.out (k*8+4) (by omega)
   have hf:=RW.out.frozenAt (k*8+4);have R1:=hide ((RW.out.stored (k*8+4) (.int .i64 1)).1);have HF:=hide (ZiH Zav (mixP ps k) k 4 p (Zd7 p) (.int .i64 1) (mix_at hp) (by omega) rfl)
   have HM:=hide (Zoy hp);have G1:=hide (Zah GW.out (Zaq wr g (k*8+4) (.int .i64 1)));have hki:(0:Int)<=(k:Int):=by omega
   have hkj:(k:Int)<(ps.length:Int):=by omega
   clear hp
   go_wp2
   go_roundw
   case rel=>exact ⟨k+1,by omega,by go_num,hide (by rw [HM.out, <-HF.out];exact R1.out),G1⟩
   case measure=>simp [intOf];omega
  ·have KN:=hide (show mixP ps k=ps.map Zd7 by
    unfold mixP;rw [List.take_of_length_le (by omega),List.drop_of_length_le (by omega),List.append_nil])
   go_wp2
   go_ret
   refine⟨rfl,⟨?_,?_,?_,?_⟩,GW.out⟩
   ·have h:=RW.out
    rw [KN.out] at h
    simpa using h
   ·intro j hj;have:=HV.out.top j hj;have:=GW.out.size;omega
   ·intro q hq
    obtain⟨p,hp,rfl⟩:=List.mem_map.1 hq;have h0:=HV.out.nears p hp;refine⟨Zan h0.1 (fun j hj=>GW.out.block j (h0.2 j hj) (fun e=>ZcN h0 HV.out.row j hj e)),fun j hj=>by have:=h0.2 j hj;have:=GW.out.size;omega⟩
   ·rw [List.pairwise_map]
    exact HV.out.apart.imp (fun h=>h)
noncomputable def runD (al:List Int) (node:Int) (xs:List RecD) (a:Int):List RecD:=
 xs.filter (fun x=>Zam x (keyB a node 0))++(tolD xs al node a).map Zca++xs.filter (fun x => !Zam x (keyB a node 7))
noncomputable def wbyD (al:List Int) (node:Int) (xs:List RecD) (as':List Int):List RecD:=as'.foldl (runD al node) xs
theorem ZkB {xs:List RecD}{r:RecD}{i:Nat}(h:Zjq xs r i):xs.take i=xs.filter (fun x=>Zam x r):=(ZjC h.1 h.2.1 h.2.2).symm
theorem Zob {xs:List RecD}{r:RecD}{i:Nat}(h:Zjq xs r i):xs.drop i=xs.filter (fun x => !Zam x r):=by
 have e:xs=xs.take i++xs.drop i:=(List.take_append_drop i xs).symm;have h1:(xs.take i).filter (fun x => !Zam x r)=[]:=by
  rw [List.filter_eq_nil_iff];intro x hx;rw [ZkB h] at hx;simp [(List.mem_filter.1 hx).2]
 have h2:(xs.drop i).filter (fun x => !Zam x r)=xs.drop i:=by
  rw [List.filter_eq_self];intro x hx;obtain⟨j,hj⟩:=List.getElem?_of_mem hx;rw [List.getElem?_drop] at hj;have hl:i+j<xs.length:=(List.getElem?_eq_some_iff.1 hj).1;have hn:=h.2.2 (i+j) (by omega) hl
  cases hb:Zam x r with
  | false=>rfl
  | true=>exact absurd ((ZcL hj).2 ((ZdI x r).2 hb)) hn
 conv=>rhs;rw [e,List.filter_append,h1,h2,List.nil_append]
theorem Zcy (x:RecD)(a node k:Int):Zam x (keyB a node k)=true↔x.area<a\/x.area=a/\(x.kind<2\/x.kind=2/\(x.owner<node\/x.owner=node/\x.key<k)):=by
 unfold Zam keyB;simp
theorem Zj2 {xs:List RecD}{al:List Int}{node a:Int}{r:RecD}(h:r∈(tolD xs al node a).map Zca):∃ to c,r=Zca (ZbC a node to c)/\Zb8 xs al node a to c/\1<=to/\to<=6:=by
 obtain⟨r0,h0,rfl⟩:=List.mem_map.1 h;obtain⟨to,c,rfl,ht⟩:=Zdk h0;exact⟨to,c,rfl,ht,Zcn ht⟩
theorem ZnQ (xs:List RecD)(al:List Int)(node a:Int):Asc ((tolD xs al node a).map Zca):=by
 unfold tolD
 split
 next h=>
  have hs:=(Classical.choose_spec h).1;unfold Asc at *;rw [List.pairwise_map];exact hs.imp (fun h=>h)
 next h=>simp [Asc]
theorem Zny {al:List Int}{node:Int}{xs:List RecD}(h:Asc xs)(a:Int):Asc (runD al node xs a):=by
 unfold runD Asc;rw [List.pairwise_append,List.pairwise_append];refine⟨⟨List.Pairwise.filter _ h,ZnQ _ _ _ _,?_⟩,List.Pairwise.filter _ h,?_⟩
 ·intro x hx y hy
  obtain⟨to,c,rfl,_,h1,h2⟩:=Zj2 hy;refine Zcv (List.mem_filter.1 hx).2 ?_
  unfold Zam keyB Zca ZbC;simp only []
  simp <;> omega
 ·intro x hx y hy
  have hy2:=(List.mem_filter.1 hy).2;simp only [Bool.not_eq_true',Bool.not_eq_true] at hy2
  have hk:∀ z:RecD,Zam z (keyB a node 7)=true->Zam z y=true:=fun z hz=>by
   rcases Zhx z y with e | e | e
   ·exact e
   ·rw [ZeB e hz] at hy2;cases hy2
   ·rw [Zcv e hz] at hy2;cases hy2
  rcases List.mem_append.1 hx with h1 | h1
  ·refine hk x ?_
   have:=(Zcy x a node 0).1 (List.mem_filter.1 h1).2;rw [Zcy];omega
  ·obtain ⟨to,c,rfl,_,h1,h2⟩:=Zj2 h1
   refine hk _ ?_
   rw [Zcy];simp [Zca,ZbC]
   omega
theorem Zp1 (xs:List RecD)(al:List Int)(node a:Int):totD ((tolD xs al node a).map Zca)<=6:=by
 have h1:=Zia xs al node a;have h2:∀ l:List RecD,(∀ r∈l,r.near=[])->totD (l.map Zca)=l.length:=by
  intro l
  induction l with
  | nil=>intro _;rfl
  | cons r l ih=>
   intro h;rw [List.map_cons,ZcQ,ih (fun q hq=>h q (List.mem_cons_of_mem _ hq))]
   have:(Zca r).near=[]:=h r (List.mem_cons_self ..);rw [this];simp
   omega
 rw [h2 _ (fun r hr=>by obtain ⟨to,c,rfl,_⟩:=Zdk hr;rfl)]
 exact h1
theorem ZpV (al:List Int)(node:Int)(xs:List RecD)(a:Int):totD (runD al node xs a)<=totD xs+6:=by
 unfold runD;rw [Zco,Zco];have h1:=Zp1 xs al node a;have h2:=Zlc (fun x=>Zam x (keyB a node 0)) (fun x => !Zam x (keyB a node 7)) (fun x hx=>by
  have h:=(Zcy x a node 0).1 hx;have:Zam x (keyB a node 7)=true:=by rw [Zcy];omega
  simp [this]) xs
 omega
theorem Zkq (al:List Int)(node:Int):∀ (as':List Int) (xs:List RecD),totD (wbyD al node xs as')<=totD xs+6*as'.length
 | [],xs=>by simp [wbyD]
 | a::as',xs=>by
  have h1:=Zkq al node as' (runD al node xs a);have h2:=ZpV al node xs a;unfold wbyD at *;rw [List.foldl_cons,List.length_cons];omega
theorem Zkp (al:List Int)(node:Int):∀ (as':List Int) {xs:List RecD},Asc xs->Asc (wbyD al node xs as')
 | [],xs,h=>h
 | a::as',xs,h=>by
  unfold wbyD;rw [List.foldl_cons];exact Zkp al node as' (Zny h a)
theorem Zpg {al as':List Int}{node a:Int}{xs:List RecD}{k:Nat}(h:as'[k]? = some a):wbyD al node xs (as'.take (k+1))=runD al node (wbyD al node xs (as'.take k)) a:=by
 obtain⟨hk,e⟩:=List.getElem?_eq_some_iff.1 h;unfold wbyD;rw [List.take_succ_eq_append_getElem hk,e,List.foldl_append]
 rfl
theorem cut_le {xs:List RecD}{a node:Int}{i j:Nat}(h0:Zjq xs (keyB a node 0) i)(h7:Zjq xs (keyB a node 7) j):i<=j:=by
 rcases Nat.lt_or_ge j i with h | h
 ·exfalso
  obtain⟨x,hx,hl⟩:=h0.2.1 j h;have hb:=(Zcy x a node 0).1 ((ZdI _ _).1 hl);have hb7:Zam x (keyB a node 7)=true:=by rw [Zcy];omega
  exact h7.2.2 j (Nat.le_refl _) (by have:=h0.1;omega) ⟨x,hx,(ZdI _ _).2 hb7⟩
 ·exact h
theorem RecsOwn.spliceR {W Wa Wb:World}{lo m i j:Nat}{v u x:Value}{qs rs:List RP}(h:RecsOwn W lo W.heap.size v qs)(hb:Below W.heap.size W Wa)(hlo:lo<=W.heap.size)(hu:RecsOwn Wa m Wa.heap.size u rs)(hm:W.heap.size<=m)(hij:i<=j)
  (row:Wb.ownsRow Wa.heap.size 39 8 x (qs.take i++rs++qs.drop j).length (flat encP (qs.take i++rs++qs.drop j))) (hg:Below Wa.heap.size Wa Wb):RecsOwn Wb lo Wb.heap.size x (qs.take i++rs++qs.drop j) where
 row:=Zaj row (by have:=hb.size;omega)
 top:=fun k hk=>(row.lt k hk).2
 apart:=by
  have cross:∀ p∈qs,∀ q∈rs,∀ k,p.2.ownBlock=some k->q.2.ownBlock=some k->False:=fun p hp q hq k h1 h2=>by
   have a1:=(h.nears p hp).2 k h1;have a2:=((hu.nears q hq).1.lt k h2).1;omega
  rw [List.pairwise_append,List.pairwise_append];refine⟨⟨h.apart.sublist (List.take_sublist _ _),hu.apart,fun p hp q hq k h1 h2=>cross p (List.mem_of_mem_take hp) q hq k h1 h2⟩,h.apart.sublist (List.drop_sublist _ _),fun p hp q hq k h1 h2=>?_⟩
  rcases List.mem_append.1 hp with h3 | h3
  ·obtain ⟨a,ha⟩:=List.getElem?_of_mem h3
   obtain⟨b,hb'⟩:=List.getElem?_of_mem hq;have hai:a<i:=by have:=(List.getElem?_eq_some_iff.1 ha).1;simp at this;omega
   rw [List.getElem?_take_of_lt hai] at ha;rw [List.getElem?_drop] at hb';obtain⟨ha1,ha2⟩:=List.getElem?_eq_some_iff.1 ha;obtain⟨hb1,hb2⟩:=List.getElem?_eq_some_iff.1 hb';have hap:=List.pairwise_iff_getElem.1 h.apart a (j+b) ha1 hb1 (by omega)
   rw [ha2,hb2] at hap;exact hap k h1 h2
  ·exact cross q (List.mem_of_mem_drop hq) p h3 k h2 h1
 nears:=fun p hp=>by
  have hs:=hb.size;have old:∀ q∈qs,ZaD Wb lo Wb.heap.size q:=fun q hq=>((h.nears q hq).keep (fun j _ h2 _=>((hb.trans (hg.mono hs)).block j h2))).wide (Nat.le_refl _) (by have:=hg.size;omega)
  rcases List.mem_append.1 hp with h1 | h1
  ·rcases List.mem_append.1 h1 with h2 | h2
   ·exact old p (List.mem_of_mem_take h2)
   ·exact ((hu.nears p h2).keep (fun j _ h2 _=>hg.block j h2)).wide (by omega) hg.size
  ·exact old p (List.mem_of_mem_drop h1)
theorem Zp7 (v:Value)(ps:List RP)(lo:Nat)(n v1 v2:Value)(ls:List Lk)(node:Int)(w:World)(hv:RecsOwn w lo w.heap.size v ps)(hlo:lo<=w.heap.size)(h1:ZaS w v1 ls w.heap.size)(hls:ls.length<=1048576)(hn:tot ps<=100000)(hasc:Asc (fsts ps)):
  Calls Tryz.prog 83 #[v,.agg #[n,v1,v2],.int .i64 node] w fun e w'=>∃ x qs,e=.returned x/\fsts qs=(if ZhB ls node then wbyD (ZbK ls node) node (fsts ps) (ZbK ls node) else fsts ps)/\RecsOwn w' lo w'.heap.size x qs/\Below w.heap.size w w':=by
 have HBO:=hide (fun W (hb:Below w.heap.size w W)=>ZjN n v1 v2 ls node W hls (ZaE.then h1 hb))
 have HAR:=hide (fun W (hb:Below w.heap.size w W)=>Zfe n v1 v2 ls node W hls (ZaE.then h1 hb))
 obtain⟨va,vc,rfl⟩:=Zac hv.row;have HV:=hide hv;have hle3:=Zc4 ls node;obtain⟨al,hal⟩:∃ al,al=ZbK ls node:=⟨_,rfl⟩;rw [<-hal] at HAR hle3 |-;clear hal h1 hv;have G0:=hide (heap_alloc_new w (.cells #[n,v1,v2] 27));have B0:Below w.heap.size w (w.alloc (.cells #[n,v1,v2] 27)):=(Below.refl _ _).alloc (Nat.le_refl _) _;obtain⟨q,hq⟩:∃ q,q=ZhB ls node:=⟨_,rfl⟩;rw [<-hq] at HBO |-;clear hq
 go_enter Tryz.func83,Tryz.ntmps83
 go_wp2_with fail
 refine (HBO.out _ B0).mono ?_
 rintro e w1 ⟨rfl,b1⟩;have B1:Below w.heap.size w w1:=B0.trans (b1.mono B0.size);have hg1:=(b1.block _ (Zab G0.out)).trans G0.out;have z0:=Zaa hg1 0;have z1:=Zaa hg1 1;have z2:=Zaa hg1 2;simp at z0 z1 z2
 clear b1 hg1 G0 B0;cases q
 ·go_wp2
  go_ret
  first
   | exact ⟨_,ps,rfl,by simp,(HV.out.below B1 (Nat.le_refl _)).wide (Nat.le_refl _) B1.size,B1⟩
   | exact ⟨_,rfl,ps,by simp,(HV.out.below B1 (Nat.le_refl _)).wide (Nat.le_refl _) B1.size,B1⟩
 go_wp2_with fail
 refine (HAR.out _ B1).mono ?_
 rintro e w2 ⟨u,rfl,hu,b2⟩;obtain⟨ea,ec,rfl⟩:=Zcs hu;have B2:Below w.heap.size w w2:=B1.trans (b2.mono B1.size);have EA:=hide (show ZaM w2 (.slice ea al.length ec) al w2.heap.size from Zap (by rw [<-Zb3] at hu;exact hu))
 have ST0:=hide ((HV.out.below B2 (Nat.le_refl _)).wide (Nat.le_refl _) B2.size);have hw2:=B2.size;clear hu b2 z0 z1 z2 HAR HBO
 go_wp2
 go_loopw [22,0] (fun i o wr=>∃ (k:Nat) (x:Value) (qs:List RP),k<=al.length/\i=.int .i64 k/\o=x/\Hid (fsts qs=wbyD al node (fsts ps) (al.take k))/\Hid (RecsOwn wr lo wr.heap.size x qs)/\Below w2.heap.size w2 wr) (fun i _ _=>al.length-(intOf i).toNat)
 case atStart=>exact ⟨0,_,ps,by omega,rfl,rfl,hide (by simp [wbyD]),ST0,Below.refl _ _⟩
 case round=>
  obtain⟨k,x,qs,hk,rfl,rfl,HM,ST,hnx⟩:=hrel;obtain⟨xa,xc,hxe⟩:=Zac ST.out.row;have hsz:=hnx.size;by_cases hlt:k<al.length
  ·obtain ⟨a,ha⟩:∃ a,al[k]? = some a:=⟨al[k],List.getElem?_eq_getElem hlt⟩
   obtain⟨b,off,cap',hve,hbb,d0⟩:=EA.out.cell k a ha;cases hve
   rw [<-hnx.cell (p:=⟨b,off+k,none⟩) hbb] at d0;have hki:(0:Int)<=(k:Int):=by omega
   have hkj:(k:Int)<(al.length:Int):=by omega
   have HST:=hide (Zpg (al:=al) (node:=node) (xs:=fsts ps) ha);have HTT:=hide (show tot qs<=100100 by
    rw [Zid,HM.out];have h2:=Zkq al node (al.take k) (fsts ps);rw [Zid] at hn;simp at h2
    omega)
   have HAS:=hide (show Asc (fsts qs) by rw [HM.out];exact Zkp _ _ _ hasc)
   have HRU:=hide (Znx _ qs wr.heap.size a node wr ST.out.in (Nat.le_refl _) (by have:=HTT.out;omega) HAS.out)
   clear ha;subst hxe
   go_wp2_with fail
   refine HRU.out.mono ?_
   rintro e w3 ⟨i,j,rfl,c0,c7,b3⟩;have C0:=hide c0;have C7:=hide c7;have hij:=cut_le c0 c7;have hfl:(fsts qs).length=qs.length:=by simp [fsts]
   have hil:i<=qs.length:=by have:=c0.1;omega
   have hjl:j<=qs.length:=by have:=c7.1;omega
   have hs3:=b3.size;clear c0 c7 hfl d0;have HBY:=hide (ZmZ _ _ qs al w3.heap.size node a w3 ((ST.out.in.below b3 (Nat.le_refl _)).wide hs3) ((EA.out.later (hnx.trans (b3.mono hsz)) (Nat.le_refl _)).more (Nat.le_trans hsz hs3)) (Nat.le_refl _) (by have:=HTT.out;omega) (by omega))
   go_wp2_with fail
   refine HBY.out.mono ?_
   rintro e w4 ⟨x2,q2,rfl,ht2,o2,b4⟩;obtain⟨x2a,x2c,rfl⟩:=Zac o2.row;have HTO:=hide (ZbH.eq ht2);have hq2:=ht2.tot.1;have hfl2:(fsts q2).length=q2.length:=by simp [fsts]
   have hs4:=b4.size;have HON:=hide (Zk1 _ q2 w3.heap.size w4 o2 (by omega))
   have O2:=hide o2;clear ht2 o2
   go_wp2_with fail
   refine HON.out.mono ?_
   rintro e w5 ⟨rfl,o5,g5⟩;have hs5:=g5.size;have BB:Below wr.heap.size wr w5:=(b3.trans (b4.mono hs3)).grown g5 (by omega) (fun k hk=>by have:=(O2.out.row.lt k hk).1;omega)
   have HRN:=hide (Zkr _ _ qs (q2.map Zd7) i j w5 (Zaj (Zae ST.out.row BB (Nat.le_refl _)) (Nat.zero_le _)) (Zaj o5.row (Nat.zero_le _)) hil hjl (by have:=HTT.out;have:=Zbh qs;omega) (by simp;omega) (fun p hp=>ZdE (ST.out.nears p hp)) (fun p hp=>ZdE (o5.nears p hp)))
   have O5:=hide o5;clear o5 g5 b3 b4
   go_wp2_with fail
   refine HRN.out.mono ?_
   rintro e w6 ⟨x6,rfl,ho6,b6⟩;have O6:=hide (RecsOwn.spliceR (lo:=lo) ST.out BB (by omega) O5.out hs3 hij ho6 b6)
   have HE6:=hide (show fsts (qs.take i++q2.map Zd7++qs.drop j)=wbyD al node (fsts ps) (al.take (k+1)) by
    rw [HST.out, <-HM.out];unfold runD;rw [<-ZkB C0.out, <-Zob C7.out, <-HTO.out];simp [fsts,Zd7,Function.comp_def])
   obtain⟨q6,hq6⟩:∃ q6,q6=qs.take i++q2.map Zd7++qs.drop j:=⟨_,rfl⟩;rw [<-hq6] at O6 HE6 ho6;clear hq6;obtain⟨x6a,x6c,rfl⟩:=Zac ho6;have B6:Below w2.heap.size w2 w6:=(hnx.trans (BB.mono hsz)).trans (b6.mono (by omega))
   clear ho6 b6
   go_wp2
   go_roundw
   case rel=>exact ⟨k+1,_,_,by omega,by go_num,rfl,HE6,O6,B6⟩
   case measure=>simp [intOf];omega
  ·have KN:=hide (show al.take k=al from List.take_of_length_le (by omega))
   subst hxe
   go_wp2
   go_ret
   first
    | exact ⟨_,qs,rfl,by rw [HM.out,KN.out] <;> simp,ST.out,B2.trans (hnx.mono hw2)⟩
    | exact ⟨_,rfl,qs,by rw [HM.out,KN.out] <;> simp,ST.out,B2.trans (hnx.mono hw2)⟩
def tofD (N:Nat)(ls:List Lk)(ts:List Th)(bs zs:List Bool)(v:Int):List RecD:=(nodD (slfD N ls ts bs zs v) (ZbK ls v)++Zey (slfD N ls ts bs zs v) ts).map Zca
def iA (N:Nat)(ls:List Lk)(ts:List Th)(bs zs:List Bool)(us:List Int):List RecD:=us.foldl (fun s v=>(tofD N ls ts bs zs v).foldl putD s) []
noncomputable def ZgI (ls:List Lk) (s:List RecD) (v:Int):List RecD:=if ZhB ls v then wbyD (ZbK ls v) v s (ZbK ls v) else s
noncomputable def iC (ls:List Lk) (us:List Int) (xs:List RecD):List RecD:=us.foldl (ZgI ls) xs
noncomputable def iR (ls:List Lk) (us:List Int) (xs:List RecD):Nat->List RecD
 | 0=>xs
 | r+1=>iC ls us (iR ls us xs r)
theorem ZgL (l:List Int):(ZaJ l).length<=l.length:=by rw [ZeZ];omega
theorem ZnN {N:Nat}{ls:List Lk}{ts:List Th}{bs zs:List Bool}{v:Int}(hN:N<=6)(ht:ts.length<=4):totD (tofD N ls ts bs zs v)<=200:=by
 unfold tofD;rw [List.map_append,Zco];have h1:∀ al:List Int,totD ((nodD (slfD N ls ts bs zs v) al).map Zca)<=37*al.length:=by
  intro al
  induction al with
  | nil=>simp [nodD,totD]
  | cons a al ih=>
   have e:(nodD (slfD N ls ts bs zs v) (a::al)).map Zca=Zca (nodR (slfD N ls ts bs zs v) a)::(nodD (slfD N ls ts bs zs v) al).map Zca:=rfl;rw [e,ZcQ,List.length_cons];have h2:=ZmI ls v a (ZaJ (hrdK (carB N ls bs zs v) N));have h3:=ZgL (hrdK (carB N ls bs zs v) N);have h4:=ZfH (carB N ls bs zs v) N;have h5:(Zca (nodR (slfD N ls ts bs zs v) a)).near.length=(hinD ls v a (ZaJ (hrdK (carB N ls bs zs v) N))).length:=rfl;omega
 have h2:∀ l:List RecD,(∀ r∈l,r.near=[])->totD (l.map Zca)=l.length:=by
  intro l
  induction l with
  | nil=>intro _;rfl
  | cons r l ih=>
   intro h;rw [List.map_cons,ZcQ,ih (fun q hq=>h q (List.mem_cons_of_mem _ hq))]
   have:(Zca r).near=[]:=h r (List.mem_cons_self ..);rw [this];simp
   omega
 have h3:=h1 (ZbK ls v);have h4:=Zc4 ls v;have h5:=h2 (Zey (slfD N ls ts bs zs v) ts) (fun r hr=>by
  unfold Zey at hr;obtain⟨t,_,rfl⟩:=List.mem_map.1 hr
  rfl)
 have h6:=Zh9 (slfD N ls ts bs zs v) ts;omega
theorem ZpG {N:Nat}{ls:List Lk}{ts:List Th}{bs zs:List Bool}{us:List Int}{k:Nat}{v:Int}(h:us[k]? = some v):iA N ls ts bs zs (us.take (k+1))=(tofD N ls ts bs zs v).foldl putD (iA N ls ts bs zs (us.take k)):=by
 obtain⟨hk,e⟩:=List.getElem?_eq_some_iff.1 h;unfold iA;rw [List.take_succ_eq_append_getElem hk,e,List.foldl_append]
 rfl
theorem Zpj (N:Nat)(ls:List Lk)(ts:List Th)(bs zs:List Bool):∀ us,Asc (iA N ls ts bs zs us):=by
 have h:∀ (us:List Int) (s:List RecD),Asc s->Asc (us.foldl (fun s v=>(tofD N ls ts bs zs v).foldl putD s) s):=by
  intro us
  induction us with
  | nil=>intro s hs;exact hs
  | cons u us ih=>intro s hs;rw [List.foldl_cons];exact ih _ (ZdT _ _ hs)
 exact fun us=>h us [] (by simp [Asc])
theorem iA_tot {N:Nat}{ls:List Lk}{ts:List Th}{bs zs:List Bool}(hN:N<=6)(ht:ts.length<=4):∀ us,totD (iA N ls ts bs zs us)<=200*us.length:=by
 have h:∀ (us:List Int) (s:List RecD),totD (us.foldl (fun s v=>(tofD N ls ts bs zs v).foldl putD s) s)<=totD s+200*us.length:=by
  intro us
  induction us with
  | nil=>intro s;simp
  | cons u us ih=>
   intro s;rw [List.foldl_cons,List.length_cons];have h1:=ih ((tofD N ls ts bs zs u).foldl putD s);have h2:=ZgD (tofD N ls ts bs zs u) s;have h3:=ZnN (ls:=ls) (bs:=bs) (zs:=zs) (v:=u) hN ht;omega
 intro us;have:=h us [];simp [totD] at this
 exact this
theorem ZpH {ls:List Lk}{us:List Int}{xs:List RecD}{k:Nat}{v:Int}(h:us[k]? = some v):iC ls (us.take (k+1)) xs=ZgI ls (iC ls (us.take k) xs) v:=by
 obtain⟨hk,e⟩:=List.getElem?_eq_some_iff.1 h;unfold iC;rw [List.take_succ_eq_append_getElem hk,e,List.foldl_append]
 rfl
theorem Zn5 {ls:List Lk}{s:List RecD}(h:Asc s)(v:Int):Asc (ZgI ls s v):=by
 unfold ZgI
 split
 ·exact Zkp _ _ _ h
 ·exact h
theorem Zn6 (ls:List Lk)(s:List RecD)(v:Int):totD (ZgI ls s v)<=totD s+18:=by
 unfold ZgI
 split
 ·have h1:=Zkq (ZbK ls v) v (ZbK ls v) s
  have h2:=Zc4 ls v;omega
 ·omega
theorem ZmK (ls:List Lk):∀ (us:List Int) {xs:List RecD},Asc xs->Asc (iC ls us xs)
 | [],xs,h=>h
 | u::us,xs,h=>by unfold iC;rw [List.foldl_cons];exact ZmK ls us (Zn5 h u)
theorem ZmL (ls:List Lk):∀ (us:List Int) (xs:List RecD),totD (iC ls us xs)<=totD xs+18*us.length
 | [],xs=>by simp [iC]
 | u::us,xs=>by
  have h1:=ZmL ls us (ZgI ls xs u);have h2:=Zn6 ls xs u;unfold iC at *;rw [List.foldl_cons,List.length_cons];omega
theorem Zpk (ls:List Lk)(us:List Int){xs:List RecD}(h:Asc xs):∀ r,Asc (iR ls us xs r)
 | 0=>h
 | r+1=>ZmK ls us (Zpk ls us h r)
theorem ZmM (ls:List Lk)(us:List Int)(xs:List RecD):∀ r,totD (iR ls us xs r)<=totD xs+18*us.length*r
 | 0=>by simp [iR]
 | r+1=>by
  have h1:=ZmM ls us xs r;have h2:=ZmL ls us (iR ls us xs r);unfold iR;rw [Nat.mul_succ];omega
structure KpSt (w wr:World) (v x:Value):Prop where
 keep:∀ j,j<w.heap.size->v.ownBlock≠some j->wr.heap[j]? = w.heap[j]?
 row:∀ j,x.ownBlock=some j->v.ownBlock=some j\/w.heap.size<=j
 size:w.heap.size<=wr.heap.size
theorem KpSt.cell {w wr:World}{v x:Value}(h:KpSt w wr v x){b o:Nat}(hb:b<w.heap.size)(hv:v.ownBlock≠some b):wr.cell? ⟨b,o,none⟩=w.cell? ⟨b,o,none⟩:=by
 simp only [World.cell?,h.keep b hb hv]
theorem KpSt.next {w wr wa wb:World}{lo:Nat}{v x x':Value}{ps ts qs:List RP}{k:Nat}(h:KpSt w wr v x)(hb:Below wr.heap.size wr wa)(hp:PASt wa wb lo x x' ps ts qs k)(hx:∀ j,x.ownBlock=some j->j<wr.heap.size):KpSt w wb v x' where
 keep:=fun j hj hv=>by
  have hs:=h.size;have hs2:=hb.size;rw [hp.keep j (by omega) (fun e=>by
   rcases h.row j e with h1 | h1
   ·exact hv h1
   ·omega),hb.block j (by omega),h.keep j hj hv]
 row:=fun j hj=>by
  have hs:=h.size;have hs2:=hb.size
  rcases hp.row j hj with h1 | h1
  ·exact h.row j h1
  ·exact .inr (by omega)
 size:=by have:=h.size;have:=hb.size;have:=hp.bel.size;omega
theorem Zlw (v1 v2 y z:Value)(N:Nat)(ls:List Lk)(ts:List Th)(bs zs:List Bool)(w:World)(hok:Zbl ⟨(N:Int),ls,ts⟩=true)(hN6:N<=6)(hls:ls.length<=12)(hts:ts.length<=4)
  (h1:w.ownsRow 0 174 4 v1 ls.length (flat lkE ls)) (h2:ZaV w v2 ts w.heap.size) (h3:Zba w y bs w.heap.size) (h4:Zba w z zs w.heap.size) (hbs:bs.length=ls.length) (hzs:zs.length=N):
  Calls Tryz.prog 22 #[.agg #[.int .i64 (N:Int),v1,v2],y,z] w fun e w'=>∃ o qs,e=.returned (.tuple #[o,.bool true])/\fsts qs=iR ls (upsK zs N) (iA N ls ts bs zs (upsK zs N)) 3/\tot qs<=2000/\RecsOwn w' w.heap.size w'.heap.size o qs/\Below w.heap.size w w':=by
 have hL:ZaS w v1 ls w.heap.size:=Zap h1;have HNO:=hide (fun W (hb:Below w.heap.size w W)=>Zg2 (.agg #[.int .i64 (N:Int),v1,v2]) ⟨(N:Int),ls,ts⟩ W (by show ls.length<=_;omega) (by show ts.length<=_;omega) ⟨v1,v2,rfl,ZaE.then hL hb,ZaE.then h2 hb⟩)
 rw [hok] at HNO;have HNU:=hide (fun W (hb:Below w.heap.size w W)=>Zj9 N v1 v2 y z (.slice none 0 0) (.slice none 0 0) (.slice none 0 0) (.slice none 0 0) 0 zs W (ZaE.then h4 hb) hzs (by omega))
 have HTO:=hide (fun W (hb:Below w.heap.size w W) (v:Int)=>ZpY N v1 v2 y z (.slice none 0 0) (.slice none 0 0) (.slice none 0 0) (.slice none 0 0) 0 v ls ts bs zs W (Zae h1 hb (Nat.le_refl _)) (ZaE.then h2 hb) (ZaE.then h3 hb) (ZaE.then h4 hb) hbs (by omega) (by omega) hzs hN6)
 have HWB:=hide (fun W (hb:Below w.heap.size w W) (x:Value) (qs:List RP) (lo:Nat) (node:Int) (hx:RecsOwn W lo W.heap.size x qs) (hlo:lo<=W.heap.size) (ht:tot qs<=100000) (ha:Asc (fsts qs))=>Zp7 x qs lo (.int .i64 (N:Int)) v1 v2 ls node W hx hlo (ZaE.then hL hb) (by omega) ht ha)
 have htT:=fun v=>ZnN (ls:=ls) (ts:=ts) (bs:=bs) (zs:=zs) (v:=v) hN6 hts
 have hiT:=iA_tot (ls:=ls) (ts:=ts) (bs:=bs) (zs:=zs) hN6 hts;have hul:=Zig zs N;obtain⟨a1,c1,rfl⟩:=Zac h1;obtain⟨a2,c2,rfl⟩:=ZaV.shape h2;obtain⟨a3,c3,rfl⟩:=h3.shape;obtain⟨a4,c4,rfl⟩:=h4.shape;rw [hbs] at HNU HTO |-;rw [hzs] at HNU HTO |-;unfold wldV at HNU HTO;obtain⟨us,hus⟩:∃ us,us=upsK zs N:=⟨_,rfl⟩;rw [<-hus] at HNU hul |-;have HTT:=hide htT;have HIT:=hide hiT;clear h1 h2 h3 h4 hbs hzs hL hok hus htT hiT;have G0:=hide (heap_alloc_new w (.cells #[.int .i64 (N:Int),.slice a1 ls.length c1,.slice a2 ts.length c2] 27));have B0:Below w.heap.size w (w.alloc (.cells #[.int .i64 (N:Int),.slice a1 ls.length c1,.slice a2 ts.length c2] 27)):=(Below.refl _ _).alloc (Nat.le_refl _) _
 go_enter Tryz.func22,Tryz.ntmps22
 go_wp2_with fail
 refine (HNO.out _ B0).mono ?_
 rintro e w1 ⟨rfl,b1⟩;have B1:Below w.heap.size w w1:=B0.trans (b1.mono B0.size);have hg1:=(b1.block _ (Zab G0.out)).trans G0.out;have n0:=Zaa hg1 0;have n1:=Zaa hg1 1;have n2:=Zaa hg1 2;simp only [List.getElem?_toArray,List.getElem?_cons_succ,List.getElem?_cons_zero] at n0 n1 n2
 have G1:=hide hg1;have hzn:w.heap.size<w1.heap.size:=Zab hg1;have hs1:=B1.size;clear hg1 b1 G0 B0 HNO;have gw:((w1.alloc (.cells #[.int .i64 (N:Int),.slice a1 ls.length c1,.slice a2 ts.length c2,.slice a3 ls.length c3,.slice a4 N c4,.slice none 0 0,.slice none 0 0,.slice none 0 0,.slice none 0 0,.int .i64 0] 114)).alloc (.cells #[] 39)).heap[w1.heap.size]? = some (.cells #[.int .i64 (N:Int),.slice a1 ls.length c1,.slice a2 ts.length c2,.slice a3 ls.length c3,.slice a4 N c4,.slice none 0 0,.slice none 0 0,.slice none 0 0,.slice none 0 0,.int .i64 0] 114):=by rw [Below.heap_alloc _ _ _ (by simp),heap_alloc_new]
 have GW:=hide gw;have GN:=hide (show ((w1.alloc (.cells #[.int .i64 (N:Int),.slice a1 ls.length c1,.slice a2 ts.length c2,.slice a3 ls.length c3,.slice a4 N c4,.slice none 0 0,.slice none 0 0,.slice none 0 0,.slice none 0 0,.int .i64 0] 114)).alloc (.cells #[] 39)).heap[w.heap.size]? = some (.cells #[.int .i64 (N:Int),.slice a1 ls.length c1,.slice a2 ts.length c2] 27) by rw [Below.heap_alloc _ _ _ (by simp;omega),Below.heap_alloc _ _ _ hzn];exact G1.out)
 have R0:=hide (show RecsOwn ((w1.alloc (.cells #[.int .i64 (N:Int),.slice a1 ls.length c1,.slice a2 ts.length c2,.slice a3 ls.length c3,.slice a4 N c4,.slice none 0 0,.slice none 0 0,.slice none 0 0,.slice none 0 0,.int .i64 0] 114)).alloc (.cells #[] 39)) (w1.heap.size+1) ((w1.alloc (.cells #[.int .i64 (N:Int),.slice a1 ls.length c1,.slice a2 ts.length c2,.slice a3 ls.length c3,.slice a4 N c4,.slice none 0 0,.slice none 0 0,.slice none 0 0,.slice none 0 0,.int .i64 0] 114)).alloc (.cells #[] 39)).heap.size (.slice (some ⟨w1.heap.size+1,0,none⟩) 0 0) [] by
  have h:=Zct (w1.alloc (.cells #[.int .i64 (N:Int),.slice a1 ls.length c1,.slice a2 ts.length c2,.slice a3 ls.length c3,.slice a4 N c4,.slice none 0 0,.slice none 0 0,.slice none 0 0,.slice none 0 0,.int .i64 0] 114)) (w1.heap.size+1) (by simp)
  rw [show (w1.alloc (.cells #[.int .i64 (N:Int),.slice a1 ls.length c1,.slice a2 ts.length c2,.slice a3 ls.length c3,.slice a4 N c4,.slice none 0 0,.slice none 0 0,.slice none 0 0,.slice none 0 0,.int .i64 0] 114)).heap.size=w1.heap.size+1 by simp] at h
  exact h)
 have HSZ2:=hide (show ((w1.alloc (.cells #[.int .i64 (N:Int),.slice a1 ls.length c1,.slice a2 ts.length c2,.slice a3 ls.length c3,.slice a4 N c4,.slice none 0 0,.slice none 0 0,.slice none 0 0,.slice none 0 0,.int .i64 0] 114)).alloc (.cells #[] 39)).heap.size=w1.heap.size+2 by simp)
 have B2:=hide (show Below w.heap.size w ((w1.alloc (.cells #[.int .i64 (N:Int),.slice a1 ls.length c1,.slice a2 ts.length c2,.slice a3 ls.length c3,.slice a4 N c4,.slice none 0 0,.slice none 0 0,.slice none 0 0,.slice none 0 0,.int .i64 0] 114)).alloc (.cells #[] 39)) from B1.trans ((Zas _ _).mono hs1))
 clear gw
 go_upto_region 5 with fail
 obtain⟨w2,hw2⟩:∃ w2,w2=(w1.alloc (.cells #[.int .i64 (N:Int),.slice a1 ls.length c1,.slice a2 ts.length c2,.slice a3 ls.length c3,.slice a4 N c4,.slice none 0 0,.slice none 0 0,.slice none 0 0,.slice none 0 0,.int .i64 0] 114)).alloc (.cells #[] 39):=⟨_,rfl⟩;rw [<-hw2] at GW GN R0 HSZ2 B2 |-;clear hw2 n0 n1 n2;have z0:=Zaa GW.out 0;have z1:=Zaa GW.out 1;have z2:=Zaa GW.out 2;have z3:=Zaa GW.out 3;have z4:=Zaa GW.out 4;have z5:=Zaa GW.out 5;have z6:=Zaa GW.out 6;have z7:=Zaa GW.out 7;have z8:=Zaa GW.out 8;have z9:=Zaa GW.out 9;simp only [List.getElem?_toArray,List.getElem?_cons_succ,List.getElem?_cons_zero] at z0 z1 z2 z3 z4 z5 z6 z7 z8 z9
 go_wp2_with fail
 refine (HNU.out _ B2.out).mono ?_
 rintro e w3 ⟨u,rfl,hu,b3⟩;obtain⟨ea,ec,rfl⟩:=Zcs hu;have hs3:=b3.size;have hsz2:=HSZ2.out;have EA:=hide (show ZaM w3 (.slice ea us.length ec) us w3.heap.size from Zap (by rw [<-Zb3] at hu;exact hu))
 have HU:=hide hu;have B3:Below w.heap.size w w3:=B2.out.trans (b3.mono B2.out.size);have GW3:=hide ((b3.block _ (Zab GW.out)).trans GW.out);have GN3:=hide ((b3.block _ (Zab GN.out)).trans GN.out);have R3:=hide ((R0.out.below b3 (Nat.le_refl _)).wide (Nat.le_refl _) hs3);have K0:=hide (show KpSt w3 w3 (.slice (some ⟨w1.heap.size+1,0,none⟩) 0 0) (.slice (some ⟨w1.heap.size+1,0,none⟩) 0 0) from ⟨fun _ _ _=>rfl,fun j h=>.inl h,Nat.le_refl _⟩)
 have hw13:w1.heap.size+2<=w3.heap.size:=by omega
 have HB2:=hide (show w1.heap.size+2<=w2.heap.size by omega)
 clear hu b3 z0 z1 z2 z3 z4 z5 z6 z7 z8 z9 GW GN R0 B2 hsz2 HSZ2
 go_wp2
 go_loopw [41,9] (fun i o wr=>∃ (k:Nat) (x:Value) (qs:List RP),k<=us.length/\i=.int .i64 k/\o=x/\Hid (fsts qs=iA N ls ts bs zs (us.take k))/\Hid (RecsOwn wr (w1.heap.size+1) wr.heap.size x qs)/\Hid (KpSt w3 wr (.slice (some ⟨w1.heap.size+1,0,none⟩) 0 0) x)/\Below w.heap.size w wr) (fun i _ _=>us.length-(intOf i).toNat)
 case atStart=>exact ⟨0,_,[],by omega,rfl,rfl,hide (by simp [fsts,iA]),R3,K0,B3⟩
 case round=>
  obtain⟨k,x,qs,hk,rfl,rfl,HM,ST,KP,hnx⟩:=hrel;obtain⟨xa,xc,hxe⟩:=Zac ST.out.row;have hsz:=hnx.size;have hkp:=KP.out.size;have HTQ:=hide (show tot qs<=1200 by
   rw [Zid,HM.out];have h2:=HIT.out (us.take k);simp at h2
   omega)
  by_cases hlt:k<us.length
  ·obtain ⟨v,hv⟩:∃ v,us[k]? = some v:=⟨us[k],List.getElem?_eq_getElem hlt⟩
   obtain⟨b,off,cap',hve,hbb,d0⟩:=EA.out.cell k v hv;cases hve
   have hbl:w1.heap.size+2<=b:=by have:=(HU.out.lt b rfl).1;have:=HB2.out;omega
   rw [<-KP.out.cell hbb (by simp [Value.ownBlock];omega)] at d0
   have gw:=(KP.out.keep w1.heap.size (by omega) (by simp [Value.ownBlock])).trans GW3.out
   have z0:=Zaa gw 0;have z1:=Zaa gw 1;have z2:=Zaa gw 2;have z3:=Zaa gw 3;have z4:=Zaa gw 4;have z5:=Zaa gw 5;have z6:=Zaa gw 6;have z7:=Zaa gw 7;have z8:=Zaa gw 8;have z9:=Zaa gw 9;simp only [List.getElem?_toArray,List.getElem?_cons_succ,List.getElem?_cons_zero] at z0 z1 z2 z3 z4 z5 z6 z7 z8 z9
   have hki:(0:Int)<=(k:Int):=by omega
   have hkj:(k:Int)<(us.length:Int):=by omega
   have HST:=hide (ZpG (N:=N) (ls:=ls) (ts:=ts) (bs:=bs) (zs:=zs) hv);have HTX:=hide (HTO.out wr hnx v);have HT2:=hide (HTT.out v);clear hv gw;subst hxe
   go_wp2_with fail
   refine HTX.out.mono ?_
   rintro e w4 ⟨u4,q4,rfl,e4,o4,b4⟩;obtain⟨a5,c5,rfl⟩:=Zac o4.row;have hs4:=b4.size;have E4:=hide (show (fsts q4).map Zca=tofD N ls ts bs zs v by rw [e4];rfl)
   have hq4:q4.length<=200:=by
    have h1:=congrArg List.length E4.out;have h2:=HT2.out;have h3:∀ l:List RecD,l.length<=totD l:=fun l=>by
     induction l with
     | nil=>simp
     | cons a l ih=>rw [ZcQ,List.length_cons];omega
    have h4:=h3 (tofD N ls ts bs zs v);simp [fsts] at h1
    omega
   have HON:=hide (Zk1 _ q4 wr.heap.size w4 o4 (by omega))
   have O4:=hide o4;clear e4 o4 d0 z0 z1 z2 z3 z4 z5 z6 z7 z8 z9
   go_wp2_with fail
   refine HON.out.mono ?_
   rintro e w5 ⟨rfl,o5,g5⟩;have hs5:=g5.size;have BB:Below wr.heap.size wr w5:=b4.grown g5 hs4 (fun k hk=>(O4.out.row.lt k hk).1)
   have HE5:=hide (show fsts (q4.map Zd7)=tofD N ls ts bs zs v by rw [<-E4.out];simp [fsts,Zd7,Function.comp_def])
   have HPA:=hide (ZlU _ _ qs (q4.map Zd7) (w1.heap.size+1) w5 ((ST.out.below BB (Nat.le_refl _)).wide (Nat.le_refl _) BB.size) (o5.at.more (Nat.le_refl _)) (by omega) (by
     have h1:=HTQ.out;have h2:=HT2.out;rw [Zid (q4.map Zd7),HE5.out];omega) (by rw [HM.out];exact Zpj _ _ _ _ _ _) (fun t ht=>(o5.nears t ht).wide (by omega) (Nat.le_refl _)) (fun p hp t ht j h1 h2=>by
     have a1:=(ST.out.nears p hp).2 j h1;have a2:=((o5.nears t ht).1.lt j h2).1;omega) o5.apart (fun j h1 h2=>by
     have a1:=ST.out.top j h1;have a2:=(o5.row.lt j h2).1;omega))
   rw [show (q4.map Zd7).length=q4.length by simp] at HPA
   clear o5 g5 b4
   go_wp2_with fail
   refine HPA.out.mono ?_
   rintro e w6 ⟨x6,q6,rfl,pa⟩;have O6:=hide pa.own;have HE6:=hide (show fsts q6=iA N ls ts bs zs (us.take (k+1)) by
    have h9:=pa.eq;rw [show (q4.map Zd7).take q4.length=q4.map Zd7 from List.take_of_length_le (by simp),HE5.out,HM.out, <-HST.out] at h9
    exact h9)
   have K6:=hide (KP.out.next BB pa (fun j h=>ST.out.top j h))
   have B6:Below w.heap.size w w6:=(hnx.trans (BB.mono hsz)).trans (pa.bel.mono (by omega))
   obtain⟨x6a,x6c,rfl⟩:=Zac pa.own.row;clear pa
   go_wp2
   go_roundw
   case rel=>exact ⟨k+1,_,q6,by omega,by go_num,rfl,HE6,O6,K6,B6⟩
   case measure=>simp [intOf];omega
  ·have HE0:=hide (show fsts qs=iR ls us (iA N ls ts bs zs us) 0 by rw [HM.out,show us.take k=us from List.take_of_length_le (by omega)];rfl)
   have GW4:=hide ((KP.out.keep w1.heap.size (by omega) (by simp [Value.ownBlock])).trans GW3.out)
   have GN4:=hide ((KP.out.keep w.heap.size (by omega) (by simp [Value.ownBlock];omega)).trans GN3.out)
   have HIA:=hide (show Asc (iA N ls ts bs zs us) from Zpj _ _ _ _ _ _)
   have HIB:=hide (show totD (iA N ls ts bs zs us)<=1200 by have:=HIT.out us;omega)
   subst hxe;clear HM KP EA HU GW3 GN3 R3 K0 B3 HTO HTT HIT
   rename World=>wa
   have hwa:w1.heap.size+1<=wa.heap.size:=by omega
   go_wp2
   go_loopw [52,9] (fun i o wr=>∃ (r:Nat) (x:Value) (qs:List RP),r<=3/\i=.int .i64 r/\o=x/\Hid (fsts qs=iR ls us (iA N ls ts bs zs us) r)/\Hid (RecsOwn wr (w1.heap.size+1) wr.heap.size x qs)/\Hid (wr.heap[w1.heap.size]? = some (.cells #[.int .i64 (N:Int),.slice a1 ls.length c1,.slice a2 ts.length c2,.slice a3 ls.length c3,.slice a4 N c4,.slice none 0 0,.slice none 0 0,.slice none 0 0,.slice none 0 0,.int .i64 0] 114))/\Hid (wr.heap[w.heap.size]? = some (.cells #[.int .i64 (N:Int),.slice a1 ls.length c1,.slice a2 ts.length c2] 27))/\Below w.heap.size w wr/\w1.heap.size+1<=wr.heap.size) (fun i _ _=>3-(intOf i).toNat)
   case atStart=>exact ⟨0,_,qs,by omega,rfl,rfl,HE0,ST,GW4,GN4,hnx,hwa⟩
   case round=>
    clear HE0 ST GW4 GN4 hnx HTQ;obtain⟨r,x,qs,hr,rfl,rfl,HM,ST,GW,GN,hnx,hwb⟩:=hrel;obtain⟨xa,xc,hxe⟩:=Zac ST.out.row;have hsz:=hnx.size
    rename World=>wb
    by_cases hrt:r<3
    ·have hri:(r:Int)<3:=by omega
     have z0:=Zaa GW.out 0;have z1:=Zaa GW.out 1;have z2:=Zaa GW.out 2;have z3:=Zaa GW.out 3;have z4:=Zaa GW.out 4;have z5:=Zaa GW.out 5;have z6:=Zaa GW.out 6;have z7:=Zaa GW.out 7;have z8:=Zaa GW.out 8;have z9:=Zaa GW.out 9;simp only [List.getElem?_toArray,List.getElem?_cons_succ,List.getElem?_cons_zero] at z0 z1 z2 z3 z4 z5 z6 z7 z8 z9
     have HNX:=hide (HNU.out wb hnx);have HRS:=hide (show iR ls us (iA N ls ts bs zs us) (r+1)=iC ls us (iR ls us (iA N ls ts bs zs us) r) from rfl)
     subst hxe
     go_wp2_with fail
     refine HNX.out.mono ?_
     rintro e w4 ⟨u,rfl,hu,b4⟩;obtain⟨ea,ec,rfl⟩:=Zcs hu;have hs4:=b4.size;have EA:=hide (show ZaM w4 (.slice ea us.length ec) us w4.heap.size from Zap (by rw [<-Zb3] at hu;exact hu))
     have B4:Below w.heap.size w w4:=hnx.trans (b4.mono hsz);have GW4:=hide ((b4.block _ (Zab GW.out)).trans GW.out);have GN4:=hide ((b4.block _ (Zab GN.out)).trans GN.out);have R4:=hide ((ST.out.below b4 (Nat.le_refl _)).wide (Nat.le_refl _) hs4);have hw4:=B4.size;clear hu b4 z0 z1 z2 z3 z4 z5 z6 z7 z8 z9 ST GW GN
     go_wp2
     go_loopw [57,9] (fun i o wr=>∃ (k:Nat) (x:Value) (qs:List RP),k<=us.length/\i=.int .i64 k/\o=x/\Hid (fsts qs=iC ls (us.take k) (iR ls us (iA N ls ts bs zs us) r))/\Hid (RecsOwn wr (w1.heap.size+1) wr.heap.size x qs)/\Below w4.heap.size w4 wr) (fun i _ _=>us.length-(intOf i).toNat)
     case atStart=>exact ⟨0,_,qs,by omega,rfl,rfl,hide (by rw [HM.out];simp [iC]),R4,Below.refl _ _⟩
     case round=>
      clear R4;obtain⟨k,x,qs2,hk,rfl,rfl,HM2,ST,hny⟩:=hrel;obtain⟨xa2,xc2,hxe2⟩:=Zac ST.out.row;have hsy:=hny.size;have hzm:w.heap.size<w4.heap.size:=Zab GN4.out;by_cases hlt:k<us.length
      ·obtain ⟨v,hv⟩:∃ v,us[k]? = some v:=⟨us[k],List.getElem?_eq_getElem hlt⟩
       obtain⟨b,off,cap',hve,hbb,d0⟩:=EA.out.cell k v hv;cases hve
       rw [<-hny.cell (p:=⟨b,off+k,none⟩) hbb] at d0;have gn:=(hny.block _ hzm).trans GN4.out;have n0:=Zaa gn 0;have n1:=Zaa gn 1;have n2:=Zaa gn 2;simp only [List.getElem?_toArray,List.getElem?_cons_succ,List.getElem?_cons_zero] at n0 n1 n2
       have hki:(0:Int)<=(k:Int):=by omega
       have hkj:(k:Int)<(us.length:Int):=by omega
       have HST:=hide (ZpH (ls:=ls) (xs:=iR ls us (iA N ls ts bs zs us) r) hv);have hT2:tot qs2<=100000:=by
        rw [Zid,HM2.out];have h1:=ZmL ls (us.take k) (iR ls us (iA N ls ts bs zs us) r);have h2:=ZmM ls us (iA N ls ts bs zs us) r;have h3:=HIB.out;have h4:18*us.length*r<=18*us.length*3:=Nat.mul_le_mul_left _ (by omega)
        simp at h1
        omega
       have HWX:=hide (HWB.out wr (B4.trans (hny.mono hw4)) _ qs2 (w1.heap.size+1) v ST.out (by omega) hT2 (by rw [HM2.out];exact ZmK _ _ (Zpk _ _ HIA.out _)))
       clear hv gn hT2;subst hxe2
       go_wp2_with fail
       refine HWX.out.mono ?_
       rintro e w6 ⟨x6,q6,rfl,e6,o6,b6⟩;have HE6:=hide (show fsts q6=iC ls (us.take (k+1)) (iR ls us (iA N ls ts bs zs us) r) by rw [HST.out,e6, <-HM2.out];rfl)
       obtain⟨x6a,x6c,rfl⟩:=Zac o6.row;have O6:=hide o6;have B6:Below w4.heap.size w4 w6:=hny.trans (b6.mono hsy);clear e6 o6 b6 n0 n1 n2 d0
       go_wp2
       go_roundw
       case rel=>exact ⟨k+1,_,q6,by omega,by go_num,rfl,HE6,O6,B6⟩
       case measure=>simp [intOf];omega
      ·have HE9:=hide (show fsts qs2=iR ls us (iA N ls ts bs zs us) (r+1) by rw [HM2.out,show us.take k=us from List.take_of_length_le (by omega),HRS.out])
       have GW9:=hide ((hny.block _ (Zab GW4.out)).trans GW4.out);have GN9:=hide ((hny.block _ (Zab GN4.out)).trans GN4.out);subst hxe2
       go_wp2
       go_roundw
       case rel=>exact ⟨r+1,_,qs2,by omega,by go_num,rfl,HE9,ST,GW9,GN9,B4.trans (hny.mono hw4),by omega⟩
       case measure=>simp [intOf];omega
    ·have hri:¬(r:Int)<3:=by omega
     have HR3:=hide (show r=3 by omega)
     have HT9:=hide (show tot qs<=2000 by
      rw [Zid,HM.out];have h2:=ZmM ls us (iA N ls ts bs zs us) r;have h3:=HIB.out;have h4:18*us.length*r<=18*us.length*3:=Nat.mul_le_mul_left _ (by omega)
      omega)
     subst hxe
     go_wp2
     go_ret2
     first
      | exact ⟨_,qs,rfl,by rw [HM.out,HR3.out],HT9.out,ST.out.wide (by omega) (Nat.le_refl _),hnx⟩
      | exact ⟨_,rfl,qs,by rw [HM.out,HR3.out],HT9.out,ST.out.wide (by omega) (Nat.le_refl _),hnx⟩
end Go.Proofs.YtadokhjefnkajaaGreat
