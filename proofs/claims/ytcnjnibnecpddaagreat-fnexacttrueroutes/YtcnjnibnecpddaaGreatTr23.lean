/-
  Parts.
-/
import Derived.Test.YtcnjnibnecpddaaGreatTr22
namespace Go.Proofs.YtcnjnibnecpddaaGreat
open Go.RowKit
set_option linter.unusedSimpArgs false
set_option linter.unusedVariables false
set_option maxRecDepth 100000
set_option maxHeartbeats 8000000
variable {a f node t:Int}{bs zs:List Bool}{al:List Int}{ls:List Lk}{ps:List RP}{s xs:List RecD}{ts:List Th}{N i k lo n sz:Nat}{r:RecD}{v x:Value}{W:World}
def Zct (r:RecD):RecD := { r with seq:=1 }
def ZeY (p:RP):RP:=(Zct p.1,p.2)
def mixP (ps:List RP)(k:Nat):List RP:=(ps.take k).map ZeY++ps.drop k
theorem mix_at {p:RP}(h:ps[k]? = some p):(mixP ps k)[k]? = some p:=by
 obtain⟨hk,e⟩:=YAD.1 h;unfold mixP;rw [YAv (by simp;omega)];simp [YAR (Nat.le_of_lt hk),h]
theorem ZqL {p:RP}(h:ps[k]? = some p):mixP ps (k+1)=(mixP ps k).set k (ZeY p):=by
 obtain⟨hk,e⟩:=YAD.1 h;have hd:ps.drop k=p::ps.drop (k+1):=by rw [<-e];exact YAk hk
 unfold mixP;rw [YAI hk,e,YAh,List.set_append_right _ _ (by simp;omega),hd];simp [YAR (Nat.le_of_lt hk)]
theorem Zka {α:Type}{enc:α->List Value}(hlen:∀ a,(enc a).length=sz):∀ (xs:List α) (k j:Nat) (x y:α) (u:Value),xs[k]? = some x->j<sz->enc y=(enc x).set j u->(flat enc xs).set (k*sz+j) u=flat enc (xs.set k y)
 | [],k,j,x,y,u,h,_,_=>by simp at h
 | a::xs,0,j,x,y,u,h,hj,he=>by
  have:a=x:=by simpa using h
  subst this;rw [YAp,ZbM,ZbM,he,Nat.zero_mul,Nat.zero_add,List.set_append_left _ _ (by rw [hlen];exact hj)]
 | a::xs,k+1,j,x,y,u,h,hj,he=>by
  have h1:xs[k]? = some x:=by simpa using h
  rw [YAu,ZbM,ZbM,List.set_append_right _ _ (by rw [hlen,Nat.succ_mul];omega),hlen, <-Zka hlen xs k j x y u h1 hj he];congr 2;rw [Nat.succ_mul];omega
theorem ZmF (v:Value)(ps:List RP)(lo:Nat)(w:World)(hv:RecsOwn w lo w.heap.size v ps)(hl:ps.length<=1048576):
  Calls Tryz.prog 80 #[v] w fun e w'=>e=.returned v/\RecsOwn w' lo w'.heap.size v (ps.map ZeY)/\w.grownBy w' v.ownBlock:=by
 obtain⟨a,c,rfl⟩:=Zac hv.row;have HV:=hide hv;have R0:=hide (show w.ownsRow lo 39 8 (.slice a ps.length c) ps.length (flat encP (mixP ps 0)) by simp only [mixP,List.take_zero,List.map_nil,List.nil_append,List.drop_zero];exact hv.row);have G0:=hide (Zbz w (Value.slice a ps.length c).ownBlock);clear hv
 go_enter Tryz.func80,Tryz.ntmps80
 go_wp2
 go_loopw [6] (fun i wr=>∃ k:Nat,k<=ps.length/\i=M k/\Hid (wr.ownsRow lo 39 8 (.slice a ps.length c) ps.length (flat encP (mixP ps k)))/\Hid (w.grownBy wr (Value.slice a ps.length c).ownBlock)) (fun i _=>ps.length-(intOf i).toNat)
 case atStart=>exact ⟨0,by omega,rfl,R0,G0⟩
 case round=>
  obtain⟨k,hk,rfl,RW,GW⟩:=hrel;by_cases hlt:k<ps.length
  ·obtain ⟨p,hp⟩:∃ p,ps[k]? = some p:=⟨ps[k],YAA hlt⟩;obtain⟨g,cap,hve,hg1,hg2⟩:=Zce RW.out (by omega);cases hve;obtain⟨u,hu⟩:=ZaM RW.out (k*8+4) (by omega);have hf:=RW.out.frozenAt (k*8+4);have R1:=hide ((RW.out.stored (k*8+4) (M 1)).1);have HF:=hide (Zka Zax (mixP ps k) k 4 p (ZeY p) (M 1) (mix_at hp) (by omega) rfl);have HM:=hide (ZqL hp);have G1:=hide (Zaj GW (Zak wr g (k*8+4) (M 1)));have hki:(0:Int)<=(k:Int):=by omega
   have hkj:(k:Int)<(ps.length:Int):=by omega
   clear hp;go_wp2;go_roundw
   case rel=>exact ⟨k+1,by omega,by go_num,hide (by rw [HM.out, <-HF.out];exact R1),G1⟩
   case measure=>exact MS_
  ·have KN:=hide (show mixP ps k=ps.map ZeY by
    unfold mixP;rw [YAP (by omega),List.drop_of_length_le (by omega),List.append_nil])
   go_wp2;go_ret;refine⟨rfl,⟨?_,?_,?_,?_⟩,GW⟩
   ·have h:=RW.out;rw [KN.out] at h;simpa using h
   ·intro j hj;have:=HV.out.top j hj;have:=GW.out.size;omega
   ·intro q hq;obtain⟨p,hp,rfl⟩:=YAV.1 hq;have h0:=HV.out.nears p hp;refine⟨Zal h0.1 (fun j hj=>GW.out.block j (h0.2 j hj) (fun e=>Zdf h0 HV.out.row j hj e)),fun j hj=>by have:=h0.2 j hj;have:=GW.out.size;omega⟩
   ·rw [YAn];exact HV.out.apart.imp (fun h=>h)
noncomputable def runD (al:List Int) (node:Int) (xs:List RecD) (a:Int):List RecD:=
 xs.filter (fun x=>Zam x (keyB a node 0))++(tolD xs al node a).map Zct++xs.filter (fun x => !Zam x (keyB a node 7))
noncomputable def wbyD (al:List Int) (node:Int) (xs:List RecD) (as':List Int):List RecD:=as'.foldl (runD al node) xs
theorem Zmf (h:ZkU xs r i):xs.take i=xs.filter (fun x=>Zam x r):=(Zlb h.1 h.2.1 h.2.2).symm
theorem Zql (h:ZkU xs r i):xs.drop i=xs.filter (fun x => !Zam x r):=by
 have e:xs=xs.take i++xs.drop i:=(YAa i xs).symm;have h1:(xs.take i).filter (fun x => !Zam x r)=[]:=by
  rw [List.filter_eq_nil_iff];intro x hx;rw [Zmf h] at hx;simp [(YAY.1 hx).2]
 have h2:(xs.drop i).filter (fun x => !Zam x r)=xs.drop i:=by
  rw [List.filter_eq_self];intro x hx;obtain⟨j,hj⟩:=List.getElem?_of_mem hx;rw [List.getElem?_drop] at hj;have hl:i+j<xs.length:=(YAD.1 hj).1;have hn:=h.2.2 (i+j) (by omega) hl;cases hb:Zam x r with
  | false=>rfl
  | true=>exact absurd ((Zdc hj).2 ((Zer x r).2 hb)) hn
 conv=>rhs;rw [e,List.filter_append,h1,h2,List.nil_append]
theorem ZcV (x:RecD)(a node k:Int):Zam x (keyB a node k)=true↔x.area<a\/x.area=a/\(x.kind<2\/x.kind=2/\(x.owner<node\/x.owner=node/\x.key<k)):=by
 unfold Zam keyB;simp
theorem ZlE (h:r∈(tolD xs al node a).map Zct):∃ to c,r=Zct (ZbN a node to c)/\Zcs xs al node a to c/\1<=to/\to<=6:=by
 obtain⟨r0,h0,rfl⟩:=YAV.1 h;obtain⟨to,c,rfl,ht⟩:=ZdZ h0;exact⟨to,c,rfl,ht,ZcH ht⟩
theorem ZpV (xs:List RecD)(al:List Int)(node a:Int):Asc ((tolD xs al node a).map Zct):=by
 unfold tolD
 split
 next h=>
  have hs:=(Classical.choose_spec h).1;unfold Asc at *;rw [YAn];exact hs.imp (fun h=>h)
 next h=>simp [Asc]
theorem ZpD (h:Asc xs)(a:Int):Asc (runD al node xs a):=by
 unfold runD Asc;rw [YAQ,YAQ];refine⟨⟨List.Pairwise.filter _ h,ZpV _ _ _ _,?_⟩,List.Pairwise.filter _ h,?_⟩
 ·intro x hx y hy;obtain⟨to,c,rfl,_,h1,h2⟩:=ZlE hy;refine ZcQ (YAY.1 hx).2 ?_;unfold Zam keyB Zct ZbN;simp only [];simp <;> omega
 ·intro x hx y hy;have hy2:=(YAY.1 hy).2;simp only [Bool.not_eq_true',Bool.not_eq_true] at hy2;have hk:∀ z:RecD,Zam z (keyB a node 7)=true->Zam z y=true:=fun z hz=>by
   rcases ZiQ z y with e | e | e
   ·exact e
   ·rw [Zfx e hz] at hy2;cases hy2
   ·rw [ZcQ e hz] at hy2;cases hy2
  rcases YAF.1 hx with h1 | h1
  ·refine hk x ?_;have:=(ZcV x a node 0).1 (YAY.1 h1).2;rw [ZcV];omega
  ·obtain ⟨to,c,rfl,_,h1,h2⟩:=ZlE h1;refine hk _ ?_;rw [ZcV];simp [Zct,ZbN];omega
theorem Zsq (xs:List RecD)(al:List Int)(node a:Int):totD ((tolD xs al node a).map Zct)<=6:=by
 have h1:=Zjx xs al node a;have h2:∀ l:List RecD,(∀ r∈l,r.near=[])->totD (l.map Zct)=l.length:=by
  intro l
  induction l with
  | nil=>intro _;rfl
  | cons r l ih=>
   intro h;rw [List.map_cons,Zdm,ih (fun q hq=>h q (YAi _ hq))];have:(Zct r).near=[]:=h r (List.mem_cons_self ..);rw [this];simp;omega
 rw [h2 _ (fun r hr=>by obtain ⟨to,c,rfl,_⟩:=ZdZ hr;rfl)];exact h1
theorem Zsk (al:List Int)(node:Int)(xs:List RecD)(a:Int):totD (runD al node xs a)<=totD xs+6:=by
 unfold runD;rw [ZcI,ZcI];have h1:=Zsq xs al node a;have h2:=ZmX (fun x=>Zam x (keyB a node 0)) (fun x => !Zam x (keyB a node 7)) (fun x hx=>by
  have h:=(ZcV x a node 0).1 hx;have:Zam x (keyB a node 7)=true:=by rw [ZcV];omega
  simp [this]) xs
 omega
theorem Zl5 (al:List Int)(node:Int):∀ (as':List Int) (xs:List RecD),totD (wbyD al node xs as')<=totD xs+6*as'.length
 | [],xs=>by simp [wbyD]
 | a::as',xs=>by
  have h1:=Zl5 al node as' (runD al node xs a);have h2:=Zsk al node xs a;unfold wbyD at *;rw [List.foldl_cons,YAm];omega
theorem Zl4 (al:List Int)(node:Int):∀ (as':List Int) {xs:List RecD},Asc xs->Asc (wbyD al node xs as')
 | [],xs,h=>h
 | a::as',xs,h=>by
  unfold wbyD;rw [List.foldl_cons];exact Zl4 al node as' (ZpD h a)
theorem Zrz {as':List Int}(h:as'[k]? = some a):wbyD al node xs (as'.take (k+1))=runD al node (wbyD al node xs (as'.take k)) a:=by
 obtain⟨hk,e⟩:=YAD.1 h;unfold wbyD;rw [YAI hk,e,List.foldl_append];rfl
theorem cut_le {j:Nat}(h0:ZkU xs (keyB a node 0) i)(h7:ZkU xs (keyB a node 7) j):i<=j:=by
 rcases Nat.lt_or_ge j i with h | h
 ·exfalso;obtain⟨x,hx,hl⟩:=h0.2.1 j h;have hb:=(ZcV x a node 0).1 ((Zer _ _).1 hl);have hb7:Zam x (keyB a node 7)=true:=by rw [ZcV];omega
  exact h7.2.2 j (YA _) (by have:=h0.1;omega) ⟨x,hx,(Zer _ _).2 hb7⟩
 ·exact h
theorem RecsOwn.spliceR {Wa Wb:World}{m j:Nat}{u:Value}{qs rs:List RP}(h:RecsOwn W lo W.heap.size v qs)(hb:T_ W Wa)(hlo:lo<=W.heap.size)(hu:RecsOwn Wa m Wa.heap.size u rs)(hm:W.heap.size<=m)(hij:i<=j)
  (row:Wb.ownsRow Wa.heap.size 39 8 x (qs.take i++rs++qs.drop j).length (flat encP (qs.take i++rs++qs.drop j))) (hg:T_ Wa Wb):RecsOwn Wb lo Wb.heap.size x (qs.take i++rs++qs.drop j) where
 row:=Zaf row (by have:=hb.size;omega)
 top:=fun k hk=>(row.lt k hk).2
 apart:=by
  have cross:∀ p∈qs,∀ q∈rs,∀ k,p.2.ownBlock=some k->q.2.ownBlock=some k->False:=fun p hp q hq k h1 h2=>by
   have a1:=(h.nears p hp).2 k h1;have a2:=((hu.nears q hq).1.lt k h2).1;omega
  rw [YAQ,YAQ];refine⟨⟨h.apart.sublist (List.take_sublist _ _),hu.apart,fun p hp q hq k h1 h2=>cross p (YAl hp) q hq k h1 h2⟩,h.apart.sublist (List.drop_sublist _ _),fun p hp q hq k h1 h2=>?_⟩;rcases YAF.1 hp with h3 | h3
  ·obtain ⟨a,ha⟩:=List.getElem?_of_mem h3;obtain⟨b,hb'⟩:=List.getElem?_of_mem hq;have hai:a<i:=by have:=(YAD.1 ha).1;simp at this;omega
   rw [YAo hai] at ha;rw [List.getElem?_drop] at hb';obtain⟨ha1,ha2⟩:=YAD.1 ha;obtain⟨hb1,hb2⟩:=YAD.1 hb';have hap:=YAb.1 h.apart a (j+b) ha1 hb1 (by omega);rw [ha2,hb2] at hap;exact hap k h1 h2
  ·exact cross q (List.mem_of_mem_drop hq) p h3 k h2 h1
 nears:=fun p hp=>by
  have hs:=hb.size;have old:∀ q∈qs,ZaH Wb lo Wb.heap.size q:=fun q hq=>((h.nears q hq).keep (fun j _ h2 _=>((hb.trans (hg.mono hs)).block j h2))).wide (YA _) (by have:=hg.size;omega);rcases YAF.1 hp with h1 | h1
  ·rcases YAF.1 h1 with h2 | h2
   ·exact old p (YAl h2)
   ·exact ((hu.nears p h2).keep (fun j _ h2 _=>hg.block j h2)).wide (by omega) hg.size
  ·exact old p (List.mem_of_mem_drop h1)
theorem Zsw (v:Value)(ps:List RP)(lo:Nat)(n v1 v2:Value)(ls:List Lk)(node:Int)(w:World)(hv:RecsOwn w lo w.heap.size v ps)(hlo:lo<=w.heap.size)(h1:ZaV w v1 ls w.heap.size)(hls:ls.length<=1048576)(hn:tot ps<=100000)(hasc:Asc (fsts ps)):
  Calls Tryz.prog 82 #[v,.agg #[n,v1,v2],M node] w fun e w'=>∃ x qs,e=.returned x/\fsts qs=(if ZiV ls node then wbyD (ZbW ls node) node (fsts ps) (ZbW ls node) else fsts ps)/\RecsOwn w' lo w'.heap.size x qs/\T_ w w':=by
 have HBO:=hide (fun W (hb:T_ w W)=>Zg8 n v1 v2 ls node W hls (Zaw.then h1 hb));have HAR:=hide (fun W (hb:T_ w W)=>ZeD n v1 v2 ls node W hls (Zaw.then h1 hb));obtain⟨va,vc,rfl⟩:=Zac hv.row;have HV:=hide hv;have hle3:=ZdE ls node;obtain⟨al,hal⟩:∃ al,al=ZbW ls node:=⟨_,rfl⟩;rw [<-hal] at HAR hle3 |-;clear hal h1 hv;have G0:=hide (YAE w (.cells #[n,v1,v2] 27));have B0:T_ w (w.alloc (.cells #[n,v1,v2] 27)):=(YAC _ _).alloc (YA _) _;obtain⟨q,hq⟩:∃ q,q=ZiV ls node:=⟨_,rfl⟩;rw [<-hq] at HBO |-;clear hq
 go_enter Tryz.func82,Tryz.ntmps82
 go_wp2_with fail
 refine (HBO _ B0).mono ?_;rintro e w1 ⟨rfl,b1⟩;have B1:T_ w w1:=B0.trans (b1.mono B0.size);have hg1:=(b1.block _ (Zab G0)).trans G0;have z0:=Zaa hg1 0;have z1:=Zaa hg1 1;have z2:=Zaa hg1 2;simp at z0 z1 z2;clear b1 hg1 G0 B0;cases q
 ·go_wp2;go_ret
  first
   | exact ⟨_,ps,rfl,by simp,(HV.out.below B1 (YA _)).wide (YA _) B1.size,B1⟩
   | exact ⟨_,rfl,ps,by simp,(HV.out.below B1 (YA _)).wide (YA _) B1.size,B1⟩
 go_wp2_with fail
 refine (HAR _ B1).mono ?_;rintro e w2 ⟨u,rfl,hu,b2⟩;obtain⟨ea,ec,rfl⟩:=Zcq hu;have B2:T_ w w2:=B1.trans (b2.mono B1.size);have EA:=hide (show ZaI w2 (.slice ea al.length ec) al w2.heap.size from Zan (by rw [<-ZbL] at hu;exact hu));have ST0:=hide ((HV.out.below B2 (YA _)).wide (YA _) B2.size);have hw2:=B2.size;clear hu b2 z0 z1 z2 HAR HBO;go_wp2
 go_loopw [22,0] (fun i o wr=>∃ (k:Nat) (x:Value) (qs:List RP),k<=al.length/\i=M k/\o=x/\Hid (fsts qs=wbyD al node (fsts ps) (al.take k))/\Hid (RecsOwn wr lo wr.heap.size x qs)/\T_ w2 wr) (fun i _ _=>al.length-(intOf i).toNat)
 case atStart=>exact ⟨0,_,ps,by omega,rfl,rfl,hide (by simp [wbyD]),ST0,YAC _ _⟩
 case round=>
  obtain⟨k,x,qs,hk,rfl,rfl,HM,ST,hnx⟩:=hrel;obtain⟨xa,xc,hxe⟩:=Zac ST.out.row;have hsz:=hnx.size;by_cases hlt:k<al.length
  ·obtain ⟨a,ha⟩:∃ a,al[k]? = some a:=⟨al[k],YAA hlt⟩;obtain⟨b,off,cap',hve,hbb,d0⟩:=EA.out.cell k a ha;cases hve;replace d0:=(hnx.cell hbb).trans d0;have hki:(0:Int)<=(k:Int):=by omega
   have hkj:(k:Int)<(al.length:Int):=by omega
   have HST:=hide (Zrz (al:=al) (node:=node) (xs:=fsts ps) ha);have HTT:=hide (show tot qs<=100100 by
    rw [ZjC,HM.out];have h2:=Zl5 al node (al.take k) (fsts ps);rw [ZjC] at hn;simp at h2;omega)
   have HAS:=hide (show Asc (fsts qs) by rw [HM.out];exact Zl4 _ _ _ hasc);have HRU:=hide (ZpC _ qs wr.heap.size a node wr ST.out.in (YA _) (by have:=HTT.out;omega) HAS);clear ha;subst hxe
   go_wp2_with fail
   refine HRU.out.mono ?_;rintro e w3 ⟨i,j,rfl,c0,c7,b3⟩;have C0:=hide c0;have C7:=hide c7;have hij:=cut_le c0 c7;have hfl:(fsts qs).length=qs.length:=by simp [fsts]
   have hil:i<=qs.length:=by have:=c0.1;omega
   have hjl:j<=qs.length:=by have:=c7.1;omega
   have hs3:=b3.size;clear c0 c7 hfl d0;have HBY:=hide (ZoZ _ _ qs al w3.heap.size node a w3 ((ST.out.in.below b3 (YA _)).wide hs3) ((EA.out.later (hnx.trans (b3.mono hsz)) (YA _)).more (YAG hsz hs3)) (YA _) (by have:=HTT.out;omega) (by omega))
   go_wp2_with fail
   refine HBY.out.mono ?_;rintro e w4 ⟨x2,q2,rfl,ht2,o2,b4⟩;obtain⟨x2a,x2c,rfl⟩:=Zac o2.row;have HTO:=hide (ZbR.eq ht2);have hq2:=ht2.tot.1;have hfl2:(fsts q2).length=q2.length:=by simp [fsts]
   have hs4:=b4.size;have HON:=hide (ZmF _ q2 w3.heap.size w4 o2 (by omega));have O2:=hide o2;clear ht2 o2
   go_wp2_with fail
   refine HON.out.mono ?_;rintro e w5 ⟨rfl,o5,g5⟩;have hs5:=g5.size;have BB:T_ wr w5:=(b3.trans (b4.mono hs3)).grown g5 (by omega) (fun k hk=>by have:=(O2.out.row.lt k hk).1;omega);have HRN:=hide (Zl6 _ _ qs (q2.map ZeY) i j w5 (Zaf (Zad ST.out.row BB (YA _)) (Nat.zero_le _)) (Zaf o5.row (Nat.zero_le _)) hil hjl (by have:=HTT.out;have:=Zby qs;omega) (by simp;omega) (fun p hp=>Zem (ST.out.nears p hp)) (fun p hp=>Zem (o5.nears p hp)));have O5:=hide o5;clear o5 g5 b3 b4
   go_wp2_with fail
   refine HRN.out.mono ?_;rintro e w6 ⟨x6,rfl,ho6,b6⟩;have O6:=hide (RecsOwn.spliceR (lo:=lo) ST BB (by omega) O5 hs3 hij ho6 b6);have HE6:=hide (show fsts (qs.take i++q2.map ZeY++qs.drop j)=wbyD al node (fsts ps) (al.take (k+1)) by
    rw [HST.out, <-HM.out];unfold runD;rw [<-Zmf C0.out, <-Zql C7.out, <-HTO.out];simp [fsts,ZeY,Function.comp_def])
   obtain⟨q6,hq6⟩:∃ q6,q6=qs.take i++q2.map ZeY++qs.drop j:=⟨_,rfl⟩;rw [<-hq6] at O6 HE6 ho6;clear hq6;obtain⟨x6a,x6c,rfl⟩:=Zac ho6;have B6:T_ w2 w6:=(hnx.trans (BB.mono hsz)).trans (b6.mono (by omega));clear ho6 b6;go_wp2;go_roundw
   case rel=>exact ⟨k+1,_,_,by omega,by go_num,rfl,HE6,O6,B6⟩
   case measure=>exact MS_
  ·have KN:=hide (show al.take k=al from YAP (by omega));subst hxe;go_wp2;go_ret
   first
    | exact ⟨_,qs,rfl,by rw [HM.out,KN.out] <;> simp,ST,B2.trans (hnx.mono hw2)⟩
    | exact ⟨_,rfl,qs,by rw [HM.out,KN.out] <;> simp,ST,B2.trans (hnx.mono hw2)⟩
def tofD (N:Nat)(ls:List Lk)(ts:List Th)(bs zs:List Bool)(v:Int):List RecD:=(nodD (slfD N ls ts bs zs v) (ZbW ls v)++Zfu (slfD N ls ts bs zs v) ts).map Zct
def iA (N:Nat)(ls:List Lk)(ts:List Th)(bs zs:List Bool)(us:List Int):List RecD:=us.foldl (fun s v=>(tofD N ls ts bs zs v).foldl putD s) []
noncomputable def ZhV (ls:List Lk) (s:List RecD) (v:Int):List RecD:=if ZiV ls v then wbyD (ZbW ls v) v s (ZbW ls v) else s
noncomputable def iC (ls:List Lk) (us:List Int) (xs:List RecD):List RecD:=us.foldl (ZhV ls) xs
noncomputable def iR (ls:List Lk) (us:List Int) (xs:List RecD):Nat->List RecD
 | 0=>xs
 | r+1=>iC ls us (iR ls us xs r)
theorem Zh1 (l:List Int):(ZaK l).length<=l.length:=by rw [ZfU];omega
theorem ZpT {v:Int}(hN:N<=6)(ht:ts.length<=4):totD (tofD N ls ts bs zs v)<=200:=by
 unfold tofD;rw [YAh,ZcI];have h1:∀ al:List Int,totD ((nodD (slfD N ls ts bs zs v) al).map Zct)<=37*al.length:=by
  intro al
  induction al with
  | nil=>simp [nodD,totD]
  | cons a al ih=>
   have e:(nodD (slfD N ls ts bs zs v) (a::al)).map Zct=Zct (nodR (slfD N ls ts bs zs v) a)::(nodD (slfD N ls ts bs zs v) al).map Zct:=rfl;rw [e,Zdm,YAm];have h2:=ZoJ ls v a (ZaK (hrdK (carB N ls bs zs v) N));have h3:=Zh1 (hrdK (carB N ls bs zs v) N);have h4:=ZgJ (carB N ls bs zs v) N;have h5:(Zct (nodR (slfD N ls ts bs zs v) a)).near.length=(hinD ls v a (ZaK (hrdK (carB N ls bs zs v) N))).length:=rfl;omega
 have h2:∀ l:List RecD,(∀ r∈l,r.near=[])->totD (l.map Zct)=l.length:=by
  intro l
  induction l with
  | nil=>intro _;rfl
  | cons r l ih=>
   intro h;rw [List.map_cons,Zdm,ih (fun q hq=>h q (YAi _ hq))];have:(Zct r).near=[]:=h r (List.mem_cons_self ..);rw [this];simp;omega
 have h3:=h1 (ZbW ls v);have h4:=ZdE ls v;have h5:=h2 (Zfu (slfD N ls ts bs zs v) ts) (fun r hr=>by
  unfold Zfu at hr;obtain⟨t,_,rfl⟩:=YAV.1 hr;rfl)
 have h6:=Zjv (slfD N ls ts bs zs v) ts;omega
theorem Zr1 {us:List Int}{v:Int}(h:us[k]? = some v):iA N ls ts bs zs (us.take (k+1))=(tofD N ls ts bs zs v).foldl putD (iA N ls ts bs zs (us.take k)):=by
 obtain⟨hk,e⟩:=YAD.1 h;unfold iA;rw [YAI hk,e,List.foldl_append];rfl
theorem ZrC (N:Nat)(ls:List Lk)(ts:List Th)(bs zs:List Bool):∀ us,Asc (iA N ls ts bs zs us):=by
 have h:∀ (us:List Int) (s:List RecD),Asc s->Asc (us.foldl (fun s v=>(tofD N ls ts bs zs v).foldl putD s) s):=by
  intro us
  induction us with
  | nil=>intro s hs;exact hs
  | cons u us ih=>intro s hs;rw [List.foldl_cons];exact ih _ (ZeB _ _ hs)
 exact fun us=>h us [] (by simp [Asc])
theorem iA_tot (hN:N<=6)(ht:ts.length<=4):∀ us,totD (iA N ls ts bs zs us)<=200*us.length:=by
 have h:∀ (us:List Int) (s:List RecD),totD (us.foldl (fun s v=>(tofD N ls ts bs zs v).foldl putD s) s)<=totD s+200*us.length:=by
  intro us
  induction us with
  | nil=>intro s;simp
  | cons u us ih=>
   intro s;rw [List.foldl_cons,YAm];have h1:=ih ((tofD N ls ts bs zs u).foldl putD s);have h2:=ZhM (tofD N ls ts bs zs u) s;have h3:=ZpT (ls:=ls) (bs:=bs) (zs:=zs) (v:=u) hN ht;omega
 intro us;have:=h us [];simp [totD] at this;exact this
theorem Zr2 {us:List Int}{v:Int}(h:us[k]? = some v):iC ls (us.take (k+1)) xs=ZhV ls (iC ls (us.take k) xs) v:=by
 obtain⟨hk,e⟩:=YAD.1 h;unfold iC;rw [YAI hk,e,List.foldl_append];rfl
theorem Zqe (h:Asc s)(v:Int):Asc (ZhV ls s v):=by
 unfold ZhV
 split
 ·exact Zl4 _ _ _ h
 ·exact h
theorem Zqf (ls:List Lk)(s:List RecD)(v:Int):totD (ZhV ls s v)<=totD s+18:=by
 unfold ZhV
 split
 ·have h1:=Zl5 (ZbW ls v) v (ZbW ls v) s;have h2:=ZdE ls v;omega
 ·omega
theorem ZoL (ls:List Lk):∀ (us:List Int) {xs:List RecD},Asc xs->Asc (iC ls us xs)
 | [],xs,h=>h
 | u::us,xs,h=>by unfold iC;rw [List.foldl_cons];exact ZoL ls us (Zqe h u)
theorem ZoM (ls:List Lk):∀ (us:List Int) (xs:List RecD),totD (iC ls us xs)<=totD xs+18*us.length
 | [],xs=>by simp [iC]
 | u::us,xs=>by
  have h1:=ZoM ls us (ZhV ls xs u);have h2:=Zqf ls xs u;unfold iC at *;rw [List.foldl_cons,YAm];omega
theorem ZrD (ls:List Lk)(us:List Int)(h:Asc xs):∀ r,Asc (iR ls us xs r)
 | 0=>h
 | r+1=>ZoL ls us (ZrD ls us h r)
theorem ZoN (ls:List Lk)(us:List Int)(xs:List RecD):∀ r,totD (iR ls us xs r)<=totD xs+18*us.length*r
 | 0=>by simp [iR]
 | r+1=>by
  have h1:=ZoN ls us xs r;have h2:=ZoM ls us (iR ls us xs r);unfold iR;rw [Nat.mul_succ];omega
structure KpSt (w wr:World) (v x:Value):Prop where
 keep:∀ j,j<w.heap.size->v.ownBlock≠some j->wr.heap[j]? = w.heap[j]?
 row:∀ j,x.ownBlock=some j->v.ownBlock=some j\/w.heap.size<=j
 size:w.heap.size<=wr.heap.size
theorem KpSt.cell {w wr:World}(h:KpSt w wr v x){b o:Nat}(hb:b<w.heap.size)(hv:v.ownBlock≠some b):wr.cell? (U b o)=w.cell? (U b o):=by
 simp only [World.cell?,h.keep b hb hv]
theorem KpSt.next {w wr wa wb:World}{x':Value}{ts qs:List RP}(h:KpSt w wr v x)(hb:T_ wr wa)(hp:PASt wa wb lo x x' ps ts qs k)(hx:∀ j,x.ownBlock=some j->j<wr.heap.size):KpSt w wb v x' where
 keep:=fun j hj hv=>by
  have hs:=h.size;have hs2:=hb.size;rw [hp.keep j (by omega) (fun e=>by
   rcases h.row j e with h1 | h1
   ·exact hv h1
   ·omega),hb.block j (by omega),h.keep j hj hv]
 row:=fun j hj=>by
  have hs:=h.size;have hs2:=hb.size;rcases hp.row j hj with h1 | h1
  ·exact h.row j h1
  ·exact .inr (by omega)
 size:=by have:=h.size;have:=hb.size;have:=hp.bel.size;omega
theorem Znf (v1 v2 y z:Value)(N:Nat)(ls:List Lk)(ts:List Th)(bs zs:List Bool)(w:World)(hok:Zbh ⟨(N:Int),ls,ts⟩=true)(hN6:N<=6)(hls:ls.length<=12)(hts:ts.length<=4)
  (h1:w.ownsRow 0 173 4 v1 ls.length (flat lkE ls)) (h2:ZaU w v2 ts w.heap.size) (h3:Za6 w y bs w.heap.size) (h4:Za6 w z zs w.heap.size) (hbs:bs.length=ls.length) (hzs:zs.length=N):
  Calls Tryz.prog 21 #[.agg #[M (N:Int),v1,v2],y,z] w fun e w'=>∃ o qs,e=.returned (.tuple #[o,.bool true])/\fsts qs=iR ls (upsK zs N) (iA N ls ts bs zs (upsK zs N)) 3/\tot qs<=2000/\RecsOwn w' w.heap.size w'.heap.size o qs/\T_ w w':=by
 have hL:ZaV w v1 ls w.heap.size:=Zan h1;have HNO:=hide (fun W (hb:T_ w W)=>Zil (.agg #[M (N:Int),v1,v2]) ⟨(N:Int),ls,ts⟩ W (by show ls.length<=_;omega) (by show ts.length<=_;omega) ⟨v1,v2,rfl,Zaw.then hL hb,Zaw.then h2 hb⟩);rw [hok] at HNO;have HNU:=hide (fun W (hb:T_ w W)=>ZlK N v1 v2 y z (.slice none 0 0) (.slice none 0 0) (.slice none 0 0) (.slice none 0 0) 0 zs W (Zaw.then h4 hb) hzs (by omega));have HTO:=hide (fun W (hb:T_ w W) (v:Int)=>Zso N v1 v2 y z (.slice none 0 0) (.slice none 0 0) (.slice none 0 0) (.slice none 0 0) 0 v ls ts bs zs W (Zad h1 hb (YA _)) (Zaw.then h2 hb) (Zaw.then h3 hb) (Zaw.then h4 hb) hbs (by omega) (by omega) hzs hN6);have HWB:=hide (fun W (hb:T_ w W) (x:Value) (qs:List RP) (lo:Nat) (node:Int) (hx:RecsOwn W lo W.heap.size x qs) (hlo:lo<=W.heap.size) (ht:tot qs<=100000) (ha:Asc (fsts qs))=>Zsw x qs lo (M (N:Int)) v1 v2 ls node W hx hlo (Zaw.then hL hb) (by omega) ht ha);have htT:=fun v=>ZpT (ls:=ls) (ts:=ts) (bs:=bs) (zs:=zs) (v:=v) hN6 hts;have hiT:=iA_tot (ls:=ls) (ts:=ts) (bs:=bs) (zs:=zs) hN6 hts;have hul:=ZjF zs N;obtain⟨a1,c1,rfl⟩:=Zac h1;obtain⟨a2,c2,rfl⟩:=ZaU.shape h2;obtain⟨a3,c3,rfl⟩:=h3.shape;obtain⟨a4,c4,rfl⟩:=h4.shape;rw [hbs] at HNU HTO |-;rw [hzs] at HNU HTO |-;unfold wldV at HNU HTO;obtain⟨us,hus⟩:∃ us,us=upsK zs N:=⟨_,rfl⟩;rw [<-hus] at HNU hul |-;have HTT:=hide htT;have HIT:=hide hiT;clear h1 h2 h3 h4 hbs hzs hL hok hus htT hiT;have G0:=hide (YAE w (.cells #[M (N:Int),.slice a1 ls.length c1,.slice a2 ts.length c2] 27));have B0:T_ w (w.alloc (.cells #[M (N:Int),.slice a1 ls.length c1,.slice a2 ts.length c2] 27)):=(YAC _ _).alloc (YA _) _
 go_enter Tryz.func21,Tryz.ntmps21
 go_wp2_with fail
 refine (HNO _ B0).mono ?_;rintro e w1 ⟨rfl,b1⟩;have B1:T_ w w1:=B0.trans (b1.mono B0.size);have hg1:=(b1.block _ (Zab G0)).trans G0;have n0:=Zaa hg1 0;have n1:=Zaa hg1 1;have n2:=Zaa hg1 2;simp only [YAN,YAK,YAJ] at n0 n1 n2;have G1:=hide hg1;have hzn:w.heap.size<w1.heap.size:=Zab hg1;have hs1:=B1.size;clear hg1 b1 G0 B0 HNO;have gw:((w1.alloc (.cells #[M (N:Int),.slice a1 ls.length c1,.slice a2 ts.length c2,.slice a3 ls.length c3,.slice a4 N c4,.slice none 0 0,.slice none 0 0,.slice none 0 0,.slice none 0 0,M 0] 113)).alloc (.cells #[] 39)).heap[w1.heap.size]? = some (.cells #[M (N:Int),.slice a1 ls.length c1,.slice a2 ts.length c2,.slice a3 ls.length c3,.slice a4 N c4,.slice none 0 0,.slice none 0 0,.slice none 0 0,.slice none 0 0,M 0] 113):=by rw [YAL _ _ _ (by simp),YAE]
 have GW:=hide gw;have GN:=hide (show ((w1.alloc (.cells #[M (N:Int),.slice a1 ls.length c1,.slice a2 ts.length c2,.slice a3 ls.length c3,.slice a4 N c4,.slice none 0 0,.slice none 0 0,.slice none 0 0,.slice none 0 0,M 0] 113)).alloc (.cells #[] 39)).heap[w.heap.size]? = some (.cells #[M (N:Int),.slice a1 ls.length c1,.slice a2 ts.length c2] 27) by rw [YAL _ _ _ (by simp;omega),YAL _ _ _ hzn];exact G1);have R0:=hide (show RecsOwn ((w1.alloc (.cells #[M (N:Int),.slice a1 ls.length c1,.slice a2 ts.length c2,.slice a3 ls.length c3,.slice a4 N c4,.slice none 0 0,.slice none 0 0,.slice none 0 0,.slice none 0 0,M 0] 113)).alloc (.cells #[] 39)) (w1.heap.size+1) ((w1.alloc (.cells #[M (N:Int),.slice a1 ls.length c1,.slice a2 ts.length c2,.slice a3 ls.length c3,.slice a4 N c4,.slice none 0 0,.slice none 0 0,.slice none 0 0,.slice none 0 0,M 0] 113)).alloc (.cells #[] 39)).heap.size (.slice (some (U (w1.heap.size+1) 0)) 0 0) [] by
  have h:=ZcN (w1.alloc (.cells #[M (N:Int),.slice a1 ls.length c1,.slice a2 ts.length c2,.slice a3 ls.length c3,.slice a4 N c4,.slice none 0 0,.slice none 0 0,.slice none 0 0,.slice none 0 0,M 0] 113)) (w1.heap.size+1) (by simp);rw [show (w1.alloc (.cells #[M (N:Int),.slice a1 ls.length c1,.slice a2 ts.length c2,.slice a3 ls.length c3,.slice a4 N c4,.slice none 0 0,.slice none 0 0,.slice none 0 0,.slice none 0 0,M 0] 113)).heap.size=w1.heap.size+1 by simp] at h;exact h)
 have HSZ2:=hide (show ((w1.alloc (.cells #[M (N:Int),.slice a1 ls.length c1,.slice a2 ts.length c2,.slice a3 ls.length c3,.slice a4 N c4,.slice none 0 0,.slice none 0 0,.slice none 0 0,.slice none 0 0,M 0] 113)).alloc (.cells #[] 39)).heap.size=w1.heap.size+2 by simp);have B2:=hide (show T_ w ((w1.alloc (.cells #[M (N:Int),.slice a1 ls.length c1,.slice a2 ts.length c2,.slice a3 ls.length c3,.slice a4 N c4,.slice none 0 0,.slice none 0 0,.slice none 0 0,.slice none 0 0,M 0] 113)).alloc (.cells #[] 39)) from B1.trans ((Zap _ _).mono hs1));clear gw
 go_upto_region 5 with fail
 obtain⟨w2,hw2⟩:∃ w2,w2=(w1.alloc (.cells #[M (N:Int),.slice a1 ls.length c1,.slice a2 ts.length c2,.slice a3 ls.length c3,.slice a4 N c4,.slice none 0 0,.slice none 0 0,.slice none 0 0,.slice none 0 0,M 0] 113)).alloc (.cells #[] 39):=⟨_,rfl⟩;rw [<-hw2] at GW GN R0 HSZ2 B2 |-;clear hw2 n0 n1 n2;have z0:=Zaa GW.out 0;have z1:=Zaa GW.out 1;have z2:=Zaa GW.out 2;have z3:=Zaa GW.out 3;have z4:=Zaa GW.out 4;have z5:=Zaa GW.out 5;have z6:=Zaa GW.out 6;have z7:=Zaa GW.out 7;have z8:=Zaa GW.out 8;have z9:=Zaa GW.out 9;simp only [YAN,YAK,YAJ] at z0 z1 z2 z3 z4 z5 z6 z7 z8 z9
 go_wp2_with fail
 refine (HNU _ B2).mono ?_;rintro e w3 ⟨u,rfl,hu,b3⟩;obtain⟨ea,ec,rfl⟩:=Zcq hu;have hs3:=b3.size;have hsz2:=HSZ2.out;have EA:=hide (show ZaI w3 (.slice ea us.length ec) us w3.heap.size from Zan (by rw [<-ZbL] at hu;exact hu));have HU:=hide hu;have B3:T_ w w3:=B2.out.trans (b3.mono B2.out.size);have GW3:=hide ((b3.block _ (Zab GW)).trans GW);have GN3:=hide ((b3.block _ (Zab GN)).trans GN);have R3:=hide ((R0.out.below b3 (YA _)).wide (YA _) hs3);have K0:=hide (show KpSt w3 w3 (.slice (some (U (w1.heap.size+1) 0)) 0 0) (.slice (some (U (w1.heap.size+1) 0)) 0 0) from ⟨fun _ _ _=>rfl,fun j h=>.inl h,YA _⟩);have hw13:w1.heap.size+2<=w3.heap.size:=by omega
 have HB2:=hide (show w1.heap.size+2<=w2.heap.size by omega);clear hu b3 z0 z1 z2 z3 z4 z5 z6 z7 z8 z9 GW GN R0 B2 hsz2 HSZ2;go_wp2
 go_loopw [41,9] (fun i o wr=>∃ (k:Nat) (x:Value) (qs:List RP),k<=us.length/\i=M k/\o=x/\Hid (fsts qs=iA N ls ts bs zs (us.take k))/\Hid (RecsOwn wr (w1.heap.size+1) wr.heap.size x qs)/\Hid (KpSt w3 wr (.slice (some (U (w1.heap.size+1) 0)) 0 0) x)/\T_ w wr) (fun i _ _=>us.length-(intOf i).toNat)
 case atStart=>exact ⟨0,_,[],by omega,rfl,rfl,hide (by simp [fsts,iA]),R3,K0,B3⟩
 case round=>
  obtain⟨k,x,qs,hk,rfl,rfl,HM,ST,KP,hnx⟩:=hrel;obtain⟨xa,xc,hxe⟩:=Zac ST.out.row;have hsz:=hnx.size;have hkp:=KP.out.size;have HTQ:=hide (show tot qs<=1200 by
   rw [ZjC,HM.out];have h2:=HIT.out (us.take k);simp at h2;omega)
  by_cases hlt:k<us.length
  ·obtain ⟨v,hv⟩:∃ v,us[k]? = some v:=⟨us[k],YAA hlt⟩;obtain⟨b,off,cap',hve,hbb,d0⟩:=EA.out.cell k v hv;cases hve;have hbl:w1.heap.size+2<=b:=by have:=(HU.out.lt b rfl).1;have:=HB2.out;omega
   rw [<-KP.out.cell hbb (by simp [Value.ownBlock];omega)] at d0;have gw:=(KP.out.keep w1.heap.size (by omega) (by simp [Value.ownBlock])).trans GW3;have z0:=Zaa gw 0;have z1:=Zaa gw 1;have z2:=Zaa gw 2;have z3:=Zaa gw 3;have z4:=Zaa gw 4;have z5:=Zaa gw 5;have z6:=Zaa gw 6;have z7:=Zaa gw 7;have z8:=Zaa gw 8;have z9:=Zaa gw 9;simp only [YAN,YAK,YAJ] at z0 z1 z2 z3 z4 z5 z6 z7 z8 z9;have hki:(0:Int)<=(k:Int):=by omega
   have hkj:(k:Int)<(us.length:Int):=by omega
   have HST:=hide (Zr1 (N:=N) (ls:=ls) (ts:=ts) (bs:=bs) (zs:=zs) hv);have HTX:=hide (HTO wr hnx v);have HT2:=hide (HTT v);clear hv gw;subst hxe
   go_wp2_with fail
   refine HTX.out.mono ?_;rintro e w4 ⟨u4,q4,rfl,e4,o4,b4⟩;obtain⟨a5,c5,rfl⟩:=Zac o4.row;have hs4:=b4.size;have E4:=hide (show (fsts q4).map Zct=tofD N ls ts bs zs v by rw [e4];rfl);have hq4:q4.length<=200:=by
    have h1:=congrArg List.length E4;have h2:=HT2.out;have h3:∀ l:List RecD,l.length<=totD l:=fun l=>by
     induction l with
     | nil=>simp
     | cons a l ih=>rw [Zdm,YAm];omega
    have h4:=h3 (tofD N ls ts bs zs v);simp [fsts] at h1;omega
   have HON:=hide (ZmF _ q4 wr.heap.size w4 o4 (by omega));have O4:=hide o4;clear e4 o4 d0 z0 z1 z2 z3 z4 z5 z6 z7 z8 z9
   go_wp2_with fail
   refine HON.out.mono ?_;rintro e w5 ⟨rfl,o5,g5⟩;have hs5:=g5.size;have BB:T_ wr w5:=b4.grown g5 hs4 (fun k hk=>(O4.out.row.lt k hk).1);have HE5:=hide (show fsts (q4.map ZeY)=tofD N ls ts bs zs v by rw [<-E4.out];simp [fsts,ZeY,Function.comp_def]);have HPA:=hide (ZnK _ _ qs (q4.map ZeY) (w1.heap.size+1) w5 ((ST.out.below BB (YA _)).wide (YA _) BB.size) (o5.at.more (YA _)) (by omega) (by
     have h1:=HTQ.out;have h2:=HT2.out;rw [ZjC (q4.map ZeY),HE5.out];omega) (by rw [HM.out];exact ZrC _ _ _ _ _ _) (fun t ht=>(o5.nears t ht).wide (by omega) (YA _)) (fun p hp t ht j h1 h2=>by
     have a1:=(ST.out.nears p hp).2 j h1;have a2:=((o5.nears t ht).1.lt j h2).1;omega) o5.apart (fun j h1 h2=>by
     have a1:=ST.out.top j h1;have a2:=(o5.row.lt j h2).1;omega))
   rw [show (q4.map ZeY).length=q4.length by simp] at HPA;clear o5 g5 b4
   go_wp2_with fail
   refine HPA.out.mono ?_;rintro e w6 ⟨x6,q6,rfl,pa⟩;have O6:=hide pa.own;have HE6:=hide (show fsts q6=iA N ls ts bs zs (us.take (k+1)) by
    have h9:=pa.eq;rw [show (q4.map ZeY).take q4.length=q4.map ZeY from YAP (by simp),HE5.out,HM.out, <-HST.out] at h9;exact h9)
   have K6:=hide (KP.out.next BB pa (fun j h=>ST.out.top j h));have B6:T_ w w6:=(hnx.trans (BB.mono hsz)).trans (pa.bel.mono (by omega));obtain⟨x6a,x6c,rfl⟩:=Zac pa.own.row;clear pa;go_wp2;go_roundw
   case rel=>exact ⟨k+1,_,q6,by omega,by go_num,rfl,HE6,O6,K6,B6⟩
   case measure=>exact MS_
  ·have HE0:=hide (show fsts qs=iR ls us (iA N ls ts bs zs us) 0 by rw [HM.out,show us.take k=us from YAP (by omega)];rfl);have GW4:=hide ((KP.out.keep w1.heap.size (by omega) (by simp [Value.ownBlock])).trans GW3);have GN4:=hide ((KP.out.keep w.heap.size (by omega) (by simp [Value.ownBlock];omega)).trans GN3);have HIA:=hide (show Asc (iA N ls ts bs zs us) from ZrC _ _ _ _ _ _);have HIB:=hide (show totD (iA N ls ts bs zs us)<=1200 by have:=HIT.out us;omega);subst hxe;clear HM KP EA HU GW3 GN3 R3 K0 B3 HTO HTT HIT
   rename World=>wa
   have hwa:w1.heap.size+1<=wa.heap.size:=by omega
   go_wp2
   go_loopw [52,9] (fun i o wr=>∃ (r:Nat) (x:Value) (qs:List RP),r<=3/\i=M r/\o=x/\Hid (fsts qs=iR ls us (iA N ls ts bs zs us) r)/\Hid (RecsOwn wr (w1.heap.size+1) wr.heap.size x qs)/\Hid (wr.heap[w1.heap.size]? = some (.cells #[M (N:Int),.slice a1 ls.length c1,.slice a2 ts.length c2,.slice a3 ls.length c3,.slice a4 N c4,.slice none 0 0,.slice none 0 0,.slice none 0 0,.slice none 0 0,M 0] 113))/\Hid (wr.heap[w.heap.size]? = some (.cells #[M (N:Int),.slice a1 ls.length c1,.slice a2 ts.length c2] 27))/\T_ w wr/\w1.heap.size+1<=wr.heap.size) (fun i _ _=>3-(intOf i).toNat)
   case atStart=>exact ⟨0,_,qs,by omega,rfl,rfl,HE0,ST,GW4,GN4,hnx,hwa⟩
   case round=>
    clear HE0 ST GW4 GN4 hnx HTQ;obtain⟨r,x,qs,hr,rfl,rfl,HM,ST,GW,GN,hnx,hwb⟩:=hrel;obtain⟨xa,xc,hxe⟩:=Zac ST.out.row;have hsz:=hnx.size
    rename World=>wb
    by_cases hrt:r<3
    ·have hri:(r:Int)<3:=by omega
     have z0:=Zaa GW.out 0;have z1:=Zaa GW.out 1;have z2:=Zaa GW.out 2;have z3:=Zaa GW.out 3;have z4:=Zaa GW.out 4;have z5:=Zaa GW.out 5;have z6:=Zaa GW.out 6;have z7:=Zaa GW.out 7;have z8:=Zaa GW.out 8;have z9:=Zaa GW.out 9;simp only [YAN,YAK,YAJ] at z0 z1 z2 z3 z4 z5 z6 z7 z8 z9;have HNX:=hide (HNU wb hnx);have HRS:=hide (show iR ls us (iA N ls ts bs zs us) (r+1)=iC ls us (iR ls us (iA N ls ts bs zs us) r) from rfl);subst hxe
     go_wp2_with fail
     refine HNX.out.mono ?_;rintro e w4 ⟨u,rfl,hu,b4⟩;obtain⟨ea,ec,rfl⟩:=Zcq hu;have hs4:=b4.size;have EA:=hide (show ZaI w4 (.slice ea us.length ec) us w4.heap.size from Zan (by rw [<-ZbL] at hu;exact hu));have B4:T_ w w4:=hnx.trans (b4.mono hsz);have GW4:=hide ((b4.block _ (Zab GW)).trans GW);have GN4:=hide ((b4.block _ (Zab GN)).trans GN);have R4:=hide ((ST.out.below b4 (YA _)).wide (YA _) hs4);have hw4:=B4.size;clear hu b4 z0 z1 z2 z3 z4 z5 z6 z7 z8 z9 ST GW GN;go_wp2
     go_loopw [57,9] (fun i o wr=>∃ (k:Nat) (x:Value) (qs:List RP),k<=us.length/\i=M k/\o=x/\Hid (fsts qs=iC ls (us.take k) (iR ls us (iA N ls ts bs zs us) r))/\Hid (RecsOwn wr (w1.heap.size+1) wr.heap.size x qs)/\T_ w4 wr) (fun i _ _=>us.length-(intOf i).toNat)
     case atStart=>exact ⟨0,_,qs,by omega,rfl,rfl,hide (by rw [HM.out];simp [iC]),R4,YAC _ _⟩
     case round=>
      clear R4;obtain⟨k,x,qs2,hk,rfl,rfl,HM2,ST,hny⟩:=hrel;obtain⟨xa2,xc2,hxe2⟩:=Zac ST.out.row;have hsy:=hny.size;have hzm:w.heap.size<w4.heap.size:=Zab GN4;by_cases hlt:k<us.length
      ·obtain ⟨v,hv⟩:∃ v,us[k]? = some v:=⟨us[k],YAA hlt⟩;obtain⟨b,off,cap',hve,hbb,d0⟩:=EA.out.cell k v hv;cases hve;replace d0:=(hny.cell hbb).trans d0;have gn:=(hny.block _ hzm).trans GN4;have n0:=Zaa gn 0;have n1:=Zaa gn 1;have n2:=Zaa gn 2;simp only [YAN,YAK,YAJ] at n0 n1 n2;have hki:(0:Int)<=(k:Int):=by omega
       have hkj:(k:Int)<(us.length:Int):=by omega
       have HST:=hide (Zr2 (ls:=ls) (xs:=iR ls us (iA N ls ts bs zs us) r) hv);have hT2:tot qs2<=100000:=by
        rw [ZjC,HM2.out];have h1:=ZoM ls (us.take k) (iR ls us (iA N ls ts bs zs us) r);have h2:=ZoN ls us (iA N ls ts bs zs us) r;have h3:=HIB.out;have h4:18*us.length*r<=18*us.length*3:=Nat.mul_le_mul_left _ (by omega);simp at h1;omega
       have HWX:=hide (HWB wr (B4.trans (hny.mono hw4)) _ qs2 (w1.heap.size+1) v ST (by omega) hT2 (by rw [HM2.out];exact ZoL _ _ (ZrD _ _ HIA _)));clear hv gn hT2;subst hxe2
       go_wp2_with fail
       refine HWX.out.mono ?_;rintro e w6 ⟨x6,q6,rfl,e6,o6,b6⟩;have HE6:=hide (show fsts q6=iC ls (us.take (k+1)) (iR ls us (iA N ls ts bs zs us) r) by rw [HST.out,e6, <-HM2.out];rfl);obtain⟨x6a,x6c,rfl⟩:=Zac o6.row;have O6:=hide o6;have B6:T_ w4 w6:=hny.trans (b6.mono hsy);clear e6 o6 b6 n0 n1 n2 d0;go_wp2;go_roundw
       case rel=>exact ⟨k+1,_,q6,by omega,by go_num,rfl,HE6,O6,B6⟩
       case measure=>exact MS_
      ·have HE9:=hide (show fsts qs2=iR ls us (iA N ls ts bs zs us) (r+1) by rw [HM2.out,show us.take k=us from YAP (by omega),HRS.out]);have GW9:=hide ((hny.block _ (Zab GW4)).trans GW4);have GN9:=hide ((hny.block _ (Zab GN4)).trans GN4);subst hxe2;go_wp2;go_roundw
       case rel=>exact ⟨r+1,_,qs2,by omega,by go_num,rfl,HE9,ST,GW9,GN9,B4.trans (hny.mono hw4),by omega⟩
       case measure=>exact MS_
    ·have hri:¬(r:Int)<3:=by omega
     have HR3:=hide (show r=3 by omega);have HT9:=hide (show tot qs<=2000 by
      rw [ZjC,HM.out];have h2:=ZoN ls us (iA N ls ts bs zs us) r;have h3:=HIB.out;have h4:18*us.length*r<=18*us.length*3:=Nat.mul_le_mul_left _ (by omega);omega)
     subst hxe;go_wp2;go_ret2
     first
      | exact ⟨_,qs,rfl,by rw [HM.out,HR3.out],HT9,ST.out.wide (by omega) (YA _),hnx⟩
      | exact ⟨_,rfl,qs,by rw [HM.out,HR3.out],HT9,ST.out.wide (by omega) (YA _),hnx⟩
theorem Zr5 (al:List Int)(node:Int)(s:List RecD)(a:Int)(x:RecD):x∈runD al node s a↔(x∈s/\(Zam x (keyB a node 0)=true\/Zam x (keyB a node 7)=false))\/x∈(tolD s al node a).map Zct:=by
 unfold runD;simp only [YAF,YAY,Bool.not_eq_true',Bool.not_eq_true];constructor
 ·rintro ((h | h) | h)
  ·exact .inl ⟨h.1,.inl h.2⟩
  ·exact .inr h
  ·exact .inl ⟨h.1,.inr h.2⟩
 ·rintro (⟨h,h1 | h1⟩ | h)
  ·exact .inl (.inl ⟨h,h1⟩)
  ·exact .inr ⟨h,h1⟩
  ·exact .inl (.inr h)
theorem Zsj (al:List Int)(node:Int)(s:List RecD)(a:Int):(runD al node s a).length<=s.length+6:=by
 unfold runD;rw [YAO,YAO,List.length_map];have h1:=Zjx s al node a;have h2:=Zmc (fun _=>true) (fun x=>Zam x (keyB a node 0)) (fun x => !Zam x (keyB a node 7)) (fun x hx=>by
  have h:=(ZcV x a node 0).1 hx;have:Zam x (keyB a node 7)=true:=by rw [ZcV];omega
  simp [this]) s
 have h3:cntR (fun _=>true) s<=s.length:=List.length_filter_le _ _;have h4:∀ l:List RecD,cntR (fun _=>true) l=l.length:=fun l=>by simp [cntR,List.filter_eq_self.2]
 rw [h4,h4] at h2;omega
theorem Zpx {x:RecD}(h:Za2 x=true)(hk:x.kind=2):1<=x.key/\x.key<=6:=by
 have hs:ZaA [x]=true:=by
  unfold ZaA ZbV ascB;simp [okAt,h,Zcm]
 exact (ZeN hs (YAy.2 rfl) hk).1
theorem Zk7 {x:RecD}(h:Za2 x=true):(Zam x (keyB a node 0)=true\/Zam x (keyB a node 7)=false)↔¬(x.kind=2/\x.owner=node/\x.area=a):=by
 constructor
 ·rintro (h1 | h1) ⟨a1,a2,a3⟩
  ·have:=Zpx h a1;rw [ZcV] at h1;omega
  ·have:=Zpx h a1;have h2:Zam x (keyB a node 7)=true:=by rw [ZcV];omega
   rw [h1] at h2;cases h2
 ·intro hn;cases h7:Zam x (keyB a node 7) with
  | false=>exact .inr rfl
  | true=>
   refine .inl ?_;rw [ZcV] at *;have h8:=hn;by_cases e:x.kind=2/\x.owner=node/\x.area=a
   ·exact absurd e hn
   ·omega
theorem Zjz {x:RecD}(ha:0<=a/\a<=2)(hn:1<=node/\node<=6)(h:x∈(tolD xs al node a).map Zct):Za2 x=true/\x.kind=2/\x.owner=node/\x.area=a:=by
 obtain⟨to,c,rfl,ht,h1,h2⟩:=ZlE h;exact⟨ZpO ha hn ⟨h1,h2⟩ (ZkP ht),rfl,rfl,rfl⟩
theorem ZpW {ys:List RecD}{src area:Int}(hx:ZaA xs=true)(hy:ZaA ys=true)(ha:area∈al)(h1:∀ z,z.kind=1->z.area∈al->(z∈xs↔z∈ys))(h2:∀ z,z.kind=2->z.owner≠src->z.area∈al->(z∈xs↔z∈ys)):tolD xs al src area=tolD ys al src area:=by
 by_cases h:∃ ds,ZbR xs al src area ds
 ·obtain ⟨ds,hd⟩:=h;rw [<-ZbR.eq hd, <-ZbR.eq (Zgs hx hy ha h1 h2 hd)]
 ·have h':¬∃ ds,ZbR ys al src area ds:=fun ⟨ds,hd⟩=>h ⟨ds,Zgs hy hx ha (fun z a b=>(h1 z a b).symm) (fun z a b c=>(h2 z a b c).symm) hd⟩;unfold tolD;rw [dif_neg h,dif_neg h']
structure WInv (xs:List RecD) (al:List Int) (node:Int) (dl:List Int) (s:List RecD):Prop where
 asc:Asc s
 len:s.length<=xs.length+6*dl.length
 mem:∀ x,x∈s↔(x∈xs/\¬(x.kind=2/\x.owner=node/\x.area∈dl))\/∃ a∈dl,x∈(tolD xs al node a).map Zct
theorem Zrn (h1:Asc s)(h2:∀ x∈s,Za2 x=true)(h3:s.length<=150):ZaA s=true:=by
 unfold ZaA;simp only [YAM,YAT];refine⟨⟨h3,?_⟩,Zma h1⟩;unfold ZbV;refine Zbi fun j hj=>?_;rw [ZcE (YAA hj)];exact h2 _ (YAw hj)
theorem WInv.step {dl:List Int}(h:IdOk N xs)(hn:1<=node/\node<=6)(hal:∀ b∈al,0<=b/\b<=2)(hal3:al.length<=3)(hdl:∀ b∈dl,b∈al)(hd3:dl.length<=3)(ha:a∈al)(hna:a ∉ dl)(hs:WInv xs al node dl s):WInv xs al node (dl++[a]) (runD al node s a):=by
 have hl:=Zmn h;have hok:∀ x∈s,Za2 x=true:=fun x hx=>by
  rcases (hs.mem x).1 hx with h1 | ⟨b,hb,h1⟩
  ·exact h.ok x h1.1
  ·exact (Zjz (hal b (hdl b hb)) hn h1).1
 have hst:ZaA s=true:=Zrn hs.asc hok (by have:=hs.len;omega);have hsx:ZaA xs=true:=Zik h;have htol:tolD s al node a=tolD xs al node a:=by
  refine ZpW hst hsx ha (fun z hk _=>?_) (fun z hk ho _=>?_)
  ·rw [hs.mem z];constructor
   ·rintro (h1 | ⟨b,hb,h1⟩)
    ·exact h1.1
    ·have:=(Zjz (hal b (hdl b hb)) hn h1).2.1;omega
   ·exact fun h1=>.inl ⟨h1,by rintro ⟨e,_⟩;omega⟩
  ·rw [hs.mem z];constructor
   ·rintro (h1 | ⟨b,hb,h1⟩)
    ·exact h1.1
    ·exact absurd (Zjz (hal b (hdl b hb)) hn h1).2.2.1 ho
   ·exact fun h1=>.inl ⟨h1,by rintro ⟨_,e,_⟩;exact ho e⟩
 refine⟨ZpD hs.asc a,?_,fun x=>?_⟩
 ·have h1:=Zsj al node s a;have h2:=hs.len;simp;omega
 ·rw [Zr5,htol];constructor
  ·rintro (⟨hx,hc⟩ | hx)
   ·have hc2:=(Zk7 (hok x hx)).1 hc;rcases (hs.mem x).1 hx with h1 | ⟨b,hb,h1⟩
    ·refine .inl ⟨h1.1,fun ⟨e1,e2,e3⟩=>?_⟩;rcases YAF.1 e3 with e4 | e4
     ·exact h1.2 ⟨e1,e2,e4⟩
     ·exact hc2 ⟨e1,e2,by simpa using e4⟩
    ·exact .inr ⟨b,List.mem_append_left _ hb,h1⟩
   ·exact .inr ⟨a,by simp,hx⟩
  ·rintro (⟨hx,hc⟩ | ⟨b,hb,hx⟩)
   ·refine .inl ⟨(hs.mem x).2 (.inl ⟨hx,fun ⟨e1,e2,e3⟩=>hc ⟨e1,e2,List.mem_append_left _ e3⟩⟩),(Zk7 (h.ok x hx)).2 (fun ⟨e1,e2,e3⟩=>hc ⟨e1,e2,by rw [e3];simp⟩)⟩
   ·rcases YAF.1 hb with hb1 | hb1
    ·have ht:=Zjz (hal b (hdl b hb1)) hn hx;exact .inl ⟨(hs.mem x).2 (.inr ⟨b,hb1,hx⟩),(Zk7 ht.1).2 (fun ⟨_,_,e3⟩=>hna (by rw [<-e3,ht.2.2.2];exact hb1))⟩
    ·have:b=a:=by simpa using hb1
     subst this;exact .inr hx
theorem WInv.all (h:IdOk N xs)(hn:1<=node/\node<=6)(hal:∀ b∈al,0<=b/\b<=2)(hal3:al.length<=3):∀ (as' dl:List Int) (s:List RecD),(dl++as').Nodup->(∀ b∈dl++as',b∈al)->(dl++as').length<=3->WInv xs al node dl s->WInv xs al node (dl++as') (wbyD al node s as')
 | [],dl,s,_,_,_,hs=>by simpa [wbyD] using hs
 | a::as',dl,s,hnd,hin,hlen,hs=>by
  have hna:a ∉ dl:=fun e=>(List.nodup_append.1 hnd).2.2 a e a (List.mem_cons_self ..) rfl;have h1:=hs.step h hn hal hal3 (fun b hb=>hin b (List.mem_append_left _ hb)) (by simp at hlen;omega) (hin a (by simp)) hna;have h2:=WInv.all h hn hal hal3 as' (dl++[a]) (runD al node s a) (by simpa using hnd) (fun b hb=>hin b (by simpa using hb)) (by simpa using hlen) h1;unfold wbyD at *;rw [List.foldl_cons];simpa using h2
theorem Zdq (ls:List Lk)(v:Int):(Zay ls v).Nodup:=by
 unfold Zay;exact List.Pairwise.filter _ (by decide)
theorem Ze7 (xs:List RecD)(al:List Int)(node:Int):∀ bl:List Int,bl.Nodup->((Zbg xs al node bl).map seq1).Pairwise difK
 | [],_=>by simp [Zbg]
 | b::bl,h=>by
  have h1:=List.nodup_cons.1 h;have e:Zbg xs al node (b::bl)=tolD xs al node b++Zbg xs al node bl:=rfl;rw [e,YAh,YAQ];refine⟨?_,Ze7 xs al node bl h1.2,?_⟩
  ·have e2:(tolD xs al node b).map seq1=(tolD xs al node b).map Zct:=by
    refine List.map_congr_left fun r hr=>?_;obtain⟨to,c,rfl,_⟩:=ZdZ hr;rfl
   rw [e2];exact ZrP (ZpV _ _ _ _)
  ·intro x hx y hy;obtain⟨x0,hx0,rfl⟩:=YAV.1 hx;obtain⟨y0,hy0,rfl⟩:=YAV.1 hy;obtain⟨to,c,rfl,_⟩:=ZdZ hx0;obtain⟨b',to',c',hb',rfl,_⟩:=ZcA hy0;unfold difK;cases e3:Zat (seq1 (ZbN b node to c)) (seq1 (ZbN b' node to' c')) with
   | false=>rfl
   | true=>
    have e4:b=b':=((Zhb _ _).1 e3).1;rw [e4] at h1;exact absurd hb' h1.1
theorem Zsx (h:IdOk N xs)(hn:1<=node/\node<=6)(hin:∀ x∈xs,x.kind=2->x.owner=node->x.area∈Zay ls node):wbyD (Zay ls node) node xs (Zay ls node)=beyD xs (Zay ls node) node:=by
 have hI:=WInv.all h hn (al:=Zay ls node) (fun b hb=>ZeI hb) (Zch ls node) (Zay ls node) [] xs (by simpa using Zdq ls node) (fun b hb=>by simpa using hb) (by simpa using Zch ls node) ⟨h.asc,by simp,fun x=>by simp⟩;rw [List.nil_append] at hI;refine ZgG hI.asc ?_ (fun x=>?_)
 ·unfold beyD;rw [ZhS];exact ZeB _ _ (List.Pairwise.filter _ h.asc)
 ·rw [hI.mem x];unfold beyD;rw [ZhS,Zef _ _ _ (Ze7 xs _ node _ (Zdq ls node))];have hmem:(x∈(Zbg xs (Zay ls node) node (Zay ls node)).map seq1)↔∃ a∈Zay ls node,x∈(tolD xs (Zay ls node) node a).map Zct:=by
   constructor
   ·intro hx;obtain⟨r,hr,rfl⟩:=YAV.1 hx;unfold Zbg at hr;obtain⟨a,ha,hra⟩:=YAs.1 hr;refine⟨a,ha,YAV.2 ⟨r,hra,?_⟩⟩;obtain⟨to,c,rfl,_⟩:=ZdZ hra;rfl
   ·rintro ⟨a,ha,hx⟩;obtain⟨r,hr,rfl⟩:=YAV.1 hx;refine YAV.2 ⟨r,?_,?_⟩
    ·unfold Zbg;exact YAs.2 ⟨a,ha,hr⟩
    ·obtain ⟨to,c,rfl,_⟩:=ZdZ hr;rfl
  rw [hmem,YAY];constructor
  ·rintro (⟨hx,hc⟩ | hx)
   ·have hh:ZbT node x=true:=by
     unfold ZbT;cases e1:(x.kind != 2) with
     | true=>rfl
     | false=>
      cases e2:(x.owner != node) with
      | true=>rfl
      | false=>
       simp at e1 e2;exact absurd ⟨e1,e2,hin x hx e1 e2⟩ hc
    refine .inr ⟨⟨hx,hh⟩,fun t ht=>?_⟩;obtain⟨r,hr,rfl⟩:=YAV.1 ht;obtain⟨a,to,c,_,rfl,_⟩:=ZcA hr;cases e3:Zat x (seq1 (ZbN a node to c)) with
    | false=>rfl
    | true=>
     have e4:=(Zhb _ _).1 e3;have e5:x.kind=2:=e4.2.1;have e6:x.owner=node:=e4.2.2.1;unfold ZbT at hh;simp [e5,e6] at hh
   ·exact .inl hx
  ·rintro (hx | ⟨⟨hx,hh⟩,_⟩)
   ·exact .inr hx
   ·refine .inl ⟨hx,fun ⟨e1,e2,_⟩=>?_⟩;unfold ZbT at hh;simp [e1,e2] at hh
def ZjM (ls:List Lk)(xs:List RecD):Prop:=∀ x∈xs,x.kind=2->x.area∈Zay ls x.owner
theorem ZjM.bey (h:ZjM ls xs):ZjM ls (beyD xs (Zay ls node) node):=by
 intro x hx hk;unfold beyD at hx;rw [ZhS,Zef _ _ _ (Ze7 xs _ node _ (Zdq ls node))] at hx;rcases hx with hx | ⟨hx,_⟩
 ·obtain ⟨r,hr,rfl⟩:=YAV.1 hx;obtain⟨a,to,c,ha,rfl,_⟩:=ZcA hr;exact ha
 ·exact h x (YAY.1 hx).1 hk
theorem iC_eq {N:Nat}{n:Int}{ls:List Lk}{zs:List Bool}{xs:List RecD}(hl:∀ l∈ls,Za0 n l=true)(h:IdOk N xs)(hh:ZjM ls xs):∀ k,k<=6->iC ls (upsK zs k) xs=idC ls zs xs k/\ZjM ls (idC ls zs xs k)
 | 0,_=>⟨rfl,hh⟩
 | k+1,hk=>by
  obtain⟨e,hi⟩:=iC_eq hl h hh k (by omega);have hio:=ZoP (ls:=ls) (zs:=zs) h k (by omega);have e1:iC ls (upsK zs (k+1)) xs=(if upB zs k then ZhV ls (idC ls zs xs k) ((k:Int)+1) else idC ls zs xs k):=by
   show iC ls (upsK zs k++(if upB zs k then [(k:Int)+1] else [])) xs=_;unfold iC at *;rw [List.foldl_append,e];cases upB zs k <;> rfl
  have e2:ZhV ls (idC ls zs xs k) ((k:Int)+1)=if ZeV ls ((k:Int)+1) then beyD (idC ls zs xs k) (Zay ls ((k:Int)+1)) ((k:Int)+1) else idC ls zs xs k:=by
   unfold ZhV;rw [ZjY hl,ZdF hl,Zsx hio (by omega) (fun x hx hk ho=>by rw [<-ho];exact hi x hx hk)]
  have e3:idC ls zs xs (k+1)=if upB zs k&&ZeV ls ((k:Int)+1) then beyD (idC ls zs xs k) (Zay ls ((k:Int)+1)) ((k:Int)+1) else idC ls zs xs k:=rfl
  refine⟨?_,?_⟩
  ·rw [e1,e2,e3];cases upB zs k <;> cases ZeV ls ((k:Int)+1) <;> rfl
  ·rw [e3]
   split
   ·exact hi.bey
   ·exact hi
theorem iR_eq {N:Nat}{n:Int}{ls:List Lk}{zs:List Bool}{xs:List RecD}(hN:N<=6)(hl:∀ l∈ls,Za0 n l=true)(h:IdOk N xs)(hh:ZjM ls xs):∀ r,iR ls (upsK zs N) xs r=idR ls zs N xs r/\ZjM ls (idR ls zs N xs r)
 | 0=>⟨rfl,hh⟩
 | r+1=>by
  obtain⟨e,hi⟩:=iR_eq hN hl h hh r;have ho:=ZoQ (ls:=ls) (zs:=zs) hN h r;have h1:=iC_eq (zs:=zs) hl ho hi N hN;refine⟨?_,h1.2⟩;show iC ls (upsK zs N) (iR ls (upsK zs N) xs r)=idC ls zs (idR ls zs N xs r) N;rw [e];exact h1.1
theorem Zqx {n:Int}(h:Zco n ls=true){r:Int}{l m:Lk}(hl:l∈ls)(hm:m∈ls)(h1:ZbJ f t r l=true)(h2:ZbJ f t r m=true):l=m:=by
 have hp:=Znt h;have ho:=Zhp h;have key:∀ x y:Lk,x∈ls->y∈ls->ZbJ f t r x=true->ZbJ f t r y=true->¬ordL x y<0:=fun x y hx hy k1 k2 hlt=>by
  have o1:=ho x hx;have o2:=ho y hy;unfold Za0 at o1 o2;simp only [YAM,YAT] at o1 o2;unfold ZbJ at k1 k2;simp only [YAM,YAx,beq_iff_eq] at k1 k2;rw [Zpm] at hlt;omega
 obtain⟨i,hi⟩:=List.getElem?_of_mem hl;obtain⟨j,hj⟩:=List.getElem?_of_mem hm;obtain⟨hi1,hi2⟩:=YAD.1 hi;obtain⟨hj1,hj2⟩:=YAD.1 hj;rcases Nat.lt_trichotomy i j with e | e | e
 ·have:=YAb.1 hp i j hi1 hj1 e;rw [hi2,hj2] at this;exact absurd this (key l m hl hm h1 h2)
 ·subst e;rw [hi] at hj;exact Option.some.inj hj
 ·have:=YAb.1 hp j i hj1 hi1 e;rw [hi2,hj2] at this;exact absurd this (key m l hm hl h2 h1)
theorem ZqY {n:Int}(h:Zco n ls=true){r:Int}(hu:lkUp ls bs f t r=true):Zdo ls bs f t r=ZcR ls f t r/\0<Zdo ls bs f t r:=by
 unfold lkUp at hu;obtain⟨x,hx,hh⟩:=List.any_eq_true.1 hu;unfold Zdo;cases hf:(ls.zip bs).find? (Zeq f t r) with
 | none=>exact absurd hh (by simpa using List.find?_eq_none.1 hf x hx)
 | some y=>
  have hy:=List.mem_of_find?_eq_some hf;have hyh:=List.find?_some hf;have hyl:y.1∈ls:=(List.of_mem_zip (a:=y.1) (b:=y.2) hy).1;have hyk:ZbJ f t r y.1=true:=by unfold Zeq at hyh;simp only [YAM] at hyh;exact hyh.2
  have hok:=Zhp h y.1 hyl;unfold Za0 inB at hok;simp only [YAM,YAT] at hok;unfold ZcR;cases hg:ls.find? (ZbJ f t r) with
  | none=>exact absurd hyk (by simpa using List.find?_eq_none.1 hg y.1 hyl)
  | some m=>
   have e:=Zqx h (List.mem_of_find?_eq_some hg) hyl (List.find?_some hg) hyk;subst e;simp;omega
theorem ZqX {r:Int}(hu:lkUp ls bs f t r=false):Zdo ls bs f t r=0:=by
 unfold lkUp at hu;unfold Zdo;rw [List.find?_eq_none.2 (fun x hx=>by have:=List.any_eq_false.1 hu x hx;simpa using this)];rfl
theorem Zgv :∀ (l m:List Int),l.length%2=0->ZaK (l++m)=ZaK l++ZaK m
 | [],m,_=>by simp [ZaK]
 | [a],m,h=>by simp at h
 | a::b::l,m,h=>by
  have h1:l.length%2=0:=by simp at h;omega
  have:=Zgv l m h1;show (a,b)::ZaK (l++m)=(a,b)::ZaK l++ZaK m;rw [this];rfl
theorem Zkh (f:Int->Int->Bool)(u:Int):∀ c,(hrdA f u c).length%2=0
 | 0=>rfl
 | c+1=>by
  have:=Zkh f u c;unfold hrdA;rw [YAO]
  split <;> simp <;> omega
theorem Zki (f:Int->Int->Bool):∀ k,(hrdK f k).length%2=0
 | 0=>rfl
 | k+1=>by
  have h1:=Zki f k;have h2:=Zkh f ((k:Int)+1) 3;unfold hrdK;rw [YAO];omega
theorem Zne (ls:List Lk)(v a:Int)(l m:List (Int × Int)):hinD ls v a (l++m)=hinD ls v a l++hinD ls v a m:=by
 unfold hinD;rw [List.filter_append,YAh]
theorem hin_A (ls:List Lk)(f:Int->Int->Bool)(v u a:Int)(ha:a=0\/a=1\/a=2):hinD ls v a (ZaK (hrdA f u 3))=if f u a then [⟨u,ZcR ls v u a⟩] else []:=by
 have e:hrdA f u 3=(if f u 0 then [u,0] else [])++((if f u 1 then [u,1] else [])++(if f u 2 then [u,2] else [])):=by
  simp [hrdA]
 rw [e];rcases ha with rfl | rfl | rfl <;> cases h0:f u 0 <;> cases h1:f u 1 <;> cases h2:f u 2 <;> simp [hinD,ZaK,h0,h1,h2]
theorem Zja {n:Int}{N:Nat}{ls:List Lk}{bs zs:List Bool}{v a:Int}(h:Zco n ls=true)(hv:upI N zs v=true)(ha:a=0\/a=1\/a=2):∀ k,k<=N->hinD ls v a (ZaK (hrdK (carB N ls bs zs v) k))=Zb0 ls bs zs v a k
 | 0,_=>rfl
 | k+1,hk=>by
  have ih:=Zja (bs:=bs) h hv ha k (by omega);show hinD ls v a (ZaK (hrdK (carB N ls bs zs v) k++hrdA (carB N ls bs zs v) ((k:Int)+1) 3))=_;rw [Zgv _ _ (Zki _ k),Zne,ih,hin_A _ _ _ _ _ ha];have hu:upI N zs ((k:Int)+1)=upB zs k:=by
   unfold upI;rw [show inB ((k:Int)+1) 1 (N:Int)=true by simp [inB];omega,show ((k:Int)+1-1).toNat=k by omega];rfl
  have hc:carB N ls bs zs v ((k:Int)+1) a=(upB zs k&&lkUp ls bs v ((k:Int)+1) a):=by
   unfold carB;rw [hv,hu];simp
  rw [hc];show _=Zb0 ls bs zs v a k++_;congr 1;cases hb:lkUp ls bs v ((k:Int)+1) a with
  | false=>rw [ZqX hb];simp
  | true=>
   obtain⟨e1,e2⟩:=ZqY h hb;rw [YAc e2, <-e1];cases upB zs k <;> simp
theorem Zgm {v:Int}(h:a∈Zay ls v):a=0\/a=1\/a=2:=by
 have:=ZeI h;omega
def Zep (ls:List Lk)(bs zs:List Bool)(N:Nat)(v:Int):List RecD:=(Zay ls v).map (fun a=>Zb7 v a (Zb0 ls bs zs v a N))
theorem Zib (ls:List Lk)(bs zs:List Bool)(N:Nat)(v:Int)(al:List Int)(xs:List RecD):∀ j,j<=al.length->Zf4 ls bs zs N v al xs j=((al.take j).map (fun a=>Zb7 v a (Zb0 ls bs zs v a N))).foldl putD xs
 | 0,_=>by simp [Zf4]
 | j+1,hj=>by
  have ih:=Zib ls bs zs N v al xs j (by omega);have ha:al[j]? = some al[j]:=YAA (by omega);rw [Zic ha,ih,YAI (by omega),YAh,List.foldl_append];rfl
theorem Zml (ls:List Lk)(bs zs:List Bool)(N:Nat):∀ k,idA ls bs zs N k=((upsK zs k).flatMap (Zep ls bs zs N)).foldl putD []
 | 0=>rfl
 | k+1=>by
  have ih:=Zml ls bs zs N k;have e1:idA ls bs zs N (k+1)=if upB zs k then Zf4 ls bs zs N ((k:Int)+1) (Zay ls ((k:Int)+1)) (idA ls bs zs N k) (Zay ls ((k:Int)+1)).length else idA ls bs zs N k:=rfl
  have e2:upsK zs (k+1)=upsK zs k++(if upB zs k then [(k:Int)+1] else []):=rfl;rw [e1,e2,List.flatMap_append,List.foldl_append, <-ih];cases hu:upB zs k with
  | false=>simp
  | true=>
   simp only [if_true];rw [Zib _ _ _ _ _ _ _ _ (YA _),YAf];simp [Zep]
theorem Zmm (ts:List Th)(zs:List Bool)(xs:List RecD):∀ k,idB ts zs xs k=(((ts.take k).filter (fun t=>upB zs (t.o-1).toNat)).map Zcr).foldl putD xs
 | 0=>rfl
 | k+1=>by
  have ih:=Zmm ts zs xs k;rcases Nat.lt_or_ge k ts.length with hk | hk
  ·have ht:ts[k]? = some ts[k]:=YAA hk;have e1:idB ts zs xs (k+1)=if upB zs (ts[k].o-1).toNat then putD (idB ts zs xs k) (Zcr ts[k]) else idB ts zs xs k:=by
    show (match ts[k]? with | some t=>_ | none=>_)=_;rw [ht]
   rw [e1,ih,YAI hk,List.filter_append,YAh,List.foldl_append];obtain⟨q,hq⟩:∃ q,q=ts[k]:=⟨_,rfl⟩;rw [<-hq];generalize hf:(fun t:Th=>upB zs (t.o-1).toNat)=f;have hfq:upB zs (q.o-1).toNat=f q:=by rw [<-hf]
   rw [hfq];cases hu:f q with
   | false=>simp [hu]
   | true=>simp [hu]
  ·have e1:idB ts zs xs (k+1)=idB ts zs xs k:=by
    show (match ts[k]? with | some t=>_ | none=>_)=_;rw [List.getElem?_eq_none hk]
   rw [e1,ih,YAP hk,YAP (by omega)]
theorem ZoB {a b:List RecD}(ha:a.Pairwise difK)(hb:b.Pairwise difK)(h:∀ x,x∈a↔x∈b):a.foldl putD []=b.foldl putD []:=by
 refine ZgG (ZeB _ _ (by simp [Asc])) (ZeB _ _ (by simp [Asc])) (fun x=>?_);rw [Zef _ _ _ ha,Zef _ _ _ hb,h x];simp
theorem ZfM {zs:List Bool}{v:Int}:∀ {k:Nat},v∈upsK zs k↔∃ j:Nat,j<k/\v=(j:Int)+1/\upB zs j=true
 | 0=>by simp [upsK]
 | k+1=>by
  have ih:=ZfM (zs:=zs) (v:=v) (k:=k);show v∈upsK zs k++(if upB zs k then [(k:Int)+1] else [])↔_;rw [YAF,ih];constructor
  ·rintro (⟨j,h1,h2,h3⟩ | h)
   ·exact ⟨j,by omega,h2,h3⟩
   ·cases hu:upB zs k with
    | false=>rw [hu] at h;simp at h
    | true=>rw [hu] at h;exact⟨k,by omega,by simpa using h,hu⟩
  ·rintro ⟨j,h1,h2,h3⟩;rcases Nat.lt_or_ge j k with e | e
   ·exact .inl ⟨j,e,h2,h3⟩
   ·have:j=k:=by omega
    subst this;exact .inr (by rw [h3];simpa using h2)
theorem Zgj (zs:List Bool):∀ k,(upsK zs k).Pairwise (fun a b=>a≠b)
 | 0=>by simp [upsK]
 | k+1=>by
  show (upsK zs k++(if upB zs k then [(k:Int)+1] else [])).Pairwise _;rw [YAQ];refine⟨Zgj zs k,by split <;> simp,fun a ha b hb e=>?_⟩;obtain⟨j,h1,h2,_⟩:=ZfM.1 ha
  split at hb
  ·have:b=(k:Int)+1:=by simpa using hb
   omega
  ·cases hb
theorem ZjS (ls:List Lk)(v:Int):(Zay ls v).Pairwise (fun a b=>a≠b):=Zdq ls v
theorem Zln (hok:Zbh ⟨(N:Int),ls,ts⟩=true):iA N ls ts bs zs (upsK zs N)=idB ts zs (idA ls bs zs N N) ts.length:=by
 simp only [Zbh,YAM] at hok;obtain⟨⟨h1,h2⟩,h3⟩:=hok;have hl:=Zhp h2;have ht:=ZmE h3;have htp:=ZlX h3;have e1:iA N ls ts bs zs (upsK zs N)=((upsK zs N).flatMap (tofD N ls ts bs zs)).foldl putD []:=by
  unfold iA;have h:∀ (us:List Int) (s:List RecD),us.foldl (fun s v=>(tofD N ls ts bs zs v).foldl putD s) s=(us.flatMap (tofD N ls ts bs zs)).foldl putD s:=by
   intro us
   induction us with
   | nil=>intro s;rfl
   | cons u us ih=>intro s;rw [List.foldl_cons,ih,List.flatMap_cons,List.foldl_append]
  exact h _ _
 rw [e1,Zmm,Zml,YAf, <-List.foldl_append];have hth:∀ t∈ts,(1<=t.o/\t.o<=(N:Int)):=fun t hin=>by
  have:=ht t hin;unfold Zd5 inB at this;simp only [YAM,YAT] at this;omega
 have htof:∀ v∈upsK zs N,∀ x,x∈tofD N ls ts bs zs v↔(x∈Zep ls bs zs N v\/∃ t∈ts,t.o=v/\x=Zcr t):=fun v hv x=>by
  have hup:upI N zs v=true:=by
   obtain⟨j,j1,rfl,j3⟩:=ZfM.1 hv;unfold upI;rw [show inB ((j:Int)+1) 1 (N:Int)=true by simp [inB];omega,show ((j:Int)+1-1).toNat=j by omega,j3];rfl
  unfold tofD;rw [YAh,YAF,ZdF hl];refine or_congr ?_ ?_
  ·unfold Zep nodD;rw [List.map_map,YAV,YAV];constructor
   ·rintro ⟨a,ha,rfl⟩;refine⟨a,ha,?_⟩;rw [<-Zja h2 hup (Zgm ha) N (YA _)];rfl
   ·rintro ⟨a,ha,rfl⟩;refine⟨a,ha,?_⟩;rw [<-Zja h2 hup (Zgm ha) N (YA _)];rfl
  ·unfold Zfu;rw [List.map_map,YAV];constructor
   ·rintro ⟨t,ht1,rfl⟩;have h9:=YAY.1 ht1;have h10:t.o=v:=eq_of_beq h9.2;refine⟨t,h9.1,h10,?_⟩;show Zct (thgD v t)=Zcr t;unfold Zct thgD Zcr;rw [h10]
   ·rintro ⟨t,ht1,ho,rfl⟩;refine⟨t,YAY.2 ⟨ht1,beq_iff_eq.2 ho⟩,?_⟩;show Zct (thgD v t)=Zcr t;unfold Zct thgD Zcr;rw [ho]
 have hown:∀ v∈upsK zs N,∀ x∈tofD N ls ts bs zs v,x.owner=v:=fun v hv x hx=>by
  rcases (htof v hv x).1 hx with h | ⟨t,_,ho,rfl⟩
  ·unfold Zep at h;obtain⟨a,_,rfl⟩:=YAV.1 h;rfl
  ·exact ho
 refine ZoB ?_ ?_ (fun x=>?_)
 ·rw [List.pairwise_flatMap];refine⟨fun v hv=>?_,(Zgj zs N).imp_of_mem (fun {a b} ha hb hab x hx y hy=>ZfB (.inr (.inr (.inl (by rw [hown a ha x hx,hown b hb y hy];exact hab)))))⟩;unfold tofD;rw [YAh,YAQ,ZdF hl];refine⟨?_,?_,fun x hx y hy=>?_⟩
  ·unfold nodD;rw [List.map_map,YAn];exact (ZjS ls v).imp (fun h=>ZfB (.inl h))
  ·unfold Zfu;rw [List.map_map,YAn];refine (htp.filter _).imp_of_mem (fun {a b} ha hb hab=>ZfB (.inr (.inr (.inr ?_))));have o1:a.o=v:=eq_of_beq (YAY.1 ha).2;have o2:b.o=v:=eq_of_beq (YAY.1 hb).2;show a.k≠b.k;have:=(ZlL a b).1 hab;omega
  ·unfold nodD at hx;unfold Zfu at hy;rw [List.map_map] at hx hy;obtain⟨a,_,rfl⟩:=YAV.1 hx;obtain⟨t,_,rfl⟩:=YAV.1 hy;exact ZfB (.inr (.inl (by show (1:Int)≠3;decide)))
 ·rw [YAQ,List.pairwise_flatMap];refine⟨⟨fun v hv=>?_,(Zgj zs N).imp (fun {a b} hab x hx y hy=>?_)⟩,?_,fun x hx y hy=>?_⟩
  ·unfold Zep;rw [YAn];exact (ZjS ls v).imp (fun h=>ZfB (.inl h))
  ·unfold Zep at hx hy;obtain⟨_,_,rfl⟩:=YAV.1 hx;obtain⟨_,_,rfl⟩:=YAV.1 hy;exact ZfB (.inr (.inr (.inl hab)))
  ·rw [YAn];refine (htp.filter _).imp (fun {a b} hab=>?_);have:=(ZlL a b).1 hab;rcases this with h | ⟨h,h'⟩
   ·exact ZfB (.inr (.inr (.inr (by show a.k≠b.k;omega))))
   ·exact ZfB (.inr (.inr (.inl (by show a.o≠b.o;omega))))
  ·obtain ⟨v,_,hx2⟩:=YAs.1 hx;unfold Zep at hx2;obtain⟨_,_,rfl⟩:=YAV.1 hx2;obtain⟨_,_,rfl⟩:=YAV.1 hy;exact ZfB (.inr (.inl (by show (1:Int)≠3;decide)))
 ·rw [YAF,YAs,YAs,YAV];constructor
  ·rintro ⟨v,hv,hx⟩;rcases (htof v hv x).1 hx with h | ⟨t,ht1,ho,rfl⟩
   ·exact .inl ⟨v,hv,h⟩
   ·refine .inr ⟨t,YAY.2 ⟨ht1,?_⟩,rfl⟩;obtain⟨j,j1,j2,j3⟩:=ZfM.1 hv;rw [show (t.o-1).toNat=j by omega];exact j3
  ·rintro (⟨v,hv,hx⟩ | ⟨t,ht1,rfl⟩)
   ·exact ⟨v,hv,(htof v hv x).2 (.inl hx)⟩
   ·have h9:=YAY.1 ht1;have h10:=hth t h9.1;have hv:t.o∈upsK zs N:=ZfM.2 ⟨(t.o-1).toNat,by omega,by omega,h9.2⟩;exact⟨t.o,hv,(htof t.o hv _).2 (.inr ⟨t,h9.1,rfl,rfl⟩)⟩
theorem ZqB (hok:Zbh ⟨(N:Int),ls,ts⟩=true):iR ls (upsK zs N) (iA N ls ts bs zs (upsK zs N)) 3=Zgq ls ts bs zs N:=by
 have hok':=hok;simp only [Zbh,YAM] at hok;obtain⟨⟨h1,h2⟩,h3⟩:=hok;have hN:N<=6:=by simp only [inB,YAM,YAT] at h1;omega
 have hl:=Zhp h2;have ht:=ZmE h3;have htl:ts.length<=4:=by
  unfold ZbH at h3;simp only [YAM,YAT] at h3;exact h3.1.1
 have hA:=Zll (bs:=bs) (zs:=zs) hl hN N hN;have hB:=Zlm (zs:=zs) (by omega) ht hA ts.length;have hok2:IdOk N (idB ts zs (idA ls bs zs N N) ts.length):=⟨hB.asc,hB.ok,by have:=hB.own;omega,fun u=>by rw [hB.his u];omega⟩;have hh:ZjM ls (idB ts zs (idA ls bs zs N N) ts.length):=fun x hx hk=>by
  have h9:=hB.his x.owner;unfold cntR at h9;have h10:=List.filter_eq_nil_iff.1 (List.length_eq_zero_iff.1 h9) x hx;exact absurd (by unfold hisR;simp [hk]) h10
 rw [Zln hok'];exact (iR_eq (zs:=zs) hN hl hok2 hh 3).1
def ZbZ (x:NetD)(bs zs:List Bool):Bool:=Zbh x&&(decide (bs.length=x.ls.length)&&decide ((zs.length:Int)=x.n))
noncomputable def Ze3 (x:NetD) (bs zs:List Bool):List RecD:=if ZbZ x bs zs then Zgq x.ls x.ts bs zs x.n.toNat else []
theorem Zen {x:NetD}(h:Zbh x=true):1<=x.n/\x.n<=6/\x.ls.length<=12/\x.ts.length<=4/\∀ t∈x.ts,1<=t.o/\t.o<=x.n:=by
 simp only [Zbh,YAM] at h;obtain⟨⟨h1,h2⟩,h3⟩:=h;have ht:=ZmE h3;have h4:=h2;have h5:=h3;unfold Zco at h4;unfold ZbH at h5;simp only [YAM,YAT] at h4 h5;simp only [inB,YAM,YAT] at h1;refine⟨h1.1,h1.2,h4.1.1,h5.1.1,fun t hin=>?_⟩;have:=ht t hin;unfold Zd5 inB at this;simp only [YAM,YAT] at this;omega
theorem ZlT (v1 v2 y z:Value)(x:NetD)(bs zs:List Bool)(w:World)(hl:x.ls.length<=1048576)(ht:x.ts.length<=1048576)(hbl:bs.length<=1048576)(hzl:zs.length<=1048576)(h1:w.ownsRow 0 173 4 v1 x.ls.length (flat lkE x.ls))(h2:ZaU w v2 x.ts w.heap.size)(h3:Za6 w y bs w.heap.size)(h4:Za6 w z zs w.heap.size):
  Calls Tryz.prog 22 #[.agg #[M x.n,v1,v2],y,z] w fun e w'=>∃ o qs,e=.returned (.tuple #[o,.bool (ZbZ x bs zs)])/\fsts qs=Ze3 x bs zs/\tot qs<=2000/\RecsOwn w' w.heap.size w'.heap.size o qs/\T_ w w':=by
 by_cases hB:ZbZ x bs zs=true
 ·unfold Ze3;rw [hB,if_pos rfl];unfold ZbZ at hB;simp only [YAM,YAT] at hB;obtain⟨k1,k2,k3,k4,k5⟩:=Zen hB.1;obtain⟨n,ls,ts⟩:=x;simp only [] at *;obtain⟨N,rfl⟩:∃ N:Nat,n=(N:Int):=⟨n.toNat,by omega⟩;rw [show ((N:Int)).toNat=N by omega];refine (ZnT v1 v2 y z N ls ts bs zs w hB.1 (by omega) (by omega) k3 k4 k5 (Zan h1) h2 h3 h4 hB.2.1 (by omega)).mono ?_;rintro e w' ⟨o,qs,h5,h6,h7,h8,h9⟩;exact⟨o,qs,h5,h6,by omega,h8,h9⟩
 have hB:ZbZ x bs zs=false:=by cases e:ZbZ x bs zs with
  | false=>rfl
  | true=>exact absurd e hB
 unfold Ze3;rw [hB];simp only [Bool.false_eq_true,if_false];obtain⟨n,ls,ts⟩:=x;simp only [] at *;have hL:ZaV w v1 ls w.heap.size:=Zan h1;obtain⟨a1,c1,rfl⟩:=Zac h1;obtain⟨a2,c2,rfl⟩:=ZaU.shape h2;obtain⟨a3,c3,rfl⟩:=h3.shape;obtain⟨a4,c4,rfl⟩:=h4.shape;have HNO:=hide (fun W (hb:T_ w W)=>Ziz (.agg #[M n,.slice a1 ls.length c1,.slice a2 ts.length c2]) ⟨n,ls,ts⟩ W hl ht ⟨_,_,rfl,Zaw.then hL hb,Zaw.then h2 hb⟩);have GX:=hide (show ((w.alloc (.cells #[M n,.slice a1 ls.length c1,.slice a2 ts.length c2] 27)).alloc (.cells #[] 39)).heap[w.heap.size]? = some (.cells #[M n,.slice a1 ls.length c1,.slice a2 ts.length c2] 27) by rw [YAL _ _ _ (by simp),YAE]);have RX:=hide (show RecsOwn ((w.alloc (.cells #[M n,.slice a1 ls.length c1,.slice a2 ts.length c2] 27)).alloc (.cells #[] 39)) w.heap.size ((w.alloc (.cells #[M n,.slice a1 ls.length c1,.slice a2 ts.length c2] 27)).alloc (.cells #[] 39)).heap.size (.slice (some (U (w.heap.size+1) 0)) 0 0) [] by
  have h:=ZcN (w.alloc (.cells #[M n,.slice a1 ls.length c1,.slice a2 ts.length c2] 27)) w.heap.size (by simp);rw [show (w.alloc (.cells #[M n,.slice a1 ls.length c1,.slice a2 ts.length c2] 27)).heap.size=w.heap.size+1 by simp] at h;exact h)
 have BX:T_ w ((w.alloc (.cells #[M n,.slice a1 ls.length c1,.slice a2 ts.length c2] 27)).alloc (.cells #[] 39)):=Zap _ _;clear h1 h2 h3 h4 hL;cases hok:Zbh ⟨n,ls,ts⟩ with
 | false=>
  have HOK:=hide hok;clear hok hB
  go_enter Tryz.func22,Tryz.ntmps22
  go_wp2_with fail
  refine (HNO _ BX).mono ?_;rintro e w2 ⟨rfl,b2⟩;rw [HOK.out];have B2:T_ w w2:=BX.trans (b2.mono BX.size);have g2:=(b2.block _ (Zab GX)).trans GX;have y0:=Zaa g2 0;have y1:=Zaa g2 1;simp at y0 y1;have R2:=hide ((RX.out.below b2 (YA _)).wide (YA _) b2.size);clear g2 b2;go_wp2;go_ret2;exact⟨_,[],rfl,rfl,by simp [tot],R2,B2⟩
 | true=>
  have HOK:=hide hok;unfold ZbZ at hB;simp only [hok,Bool.true_and,Bool.and_eq_false_iff,decide_eq_false_iff_not] at hB;clear hok;by_cases hlen:bs.length=ls.length
  ·have hup:((zs.length:Int) != n)=true:=by
    rcases hB with h | h
    ·exact absurd hlen h
    ·simpa using h
   rw [hlen] at *;clear hB hlen
   go_enter Tryz.func22,Tryz.ntmps22
   go_wp2_with fail
   refine (HNO _ BX).mono ?_;rintro e w2 ⟨rfl,b2⟩;rw [HOK.out];have B2:T_ w w2:=BX.trans (b2.mono BX.size);have g2:=(b2.block _ (Zab GX)).trans GX;have y0:=Zaa g2 0;have y1:=Zaa g2 1;simp at y0 y1;have R2:=hide ((RX.out.below b2 (YA _)).wide (YA _) b2.size);clear g2 b2;go_wp2;go_ret2;exact⟨_,[],rfl,rfl,by simp [tot],R2,B2⟩
  ·have hne:((bs.length:Int) != (ls.length:Int))=true:=by simp;omega
   clear hB hlen
   go_enter Tryz.func22,Tryz.ntmps22
   go_wp2_with fail
   refine (HNO _ BX).mono ?_;rintro e w2 ⟨rfl,b2⟩;rw [HOK.out];have B2:T_ w w2:=BX.trans (b2.mono BX.size);have g2:=(b2.block _ (Zab GX)).trans GX;have y0:=Zaa g2 0;have y1:=Zaa g2 1;simp at y0 y1;have R2:=hide ((RX.out.below b2 (YA _)).wide (YA _) b2.size);clear g2 b2;go_wp2;go_ret2;exact⟨_,[],rfl,rfl,by simp [tot],R2,B2⟩
theorem Zlo (v1 v2 y z:Value)(x:NetD)(bs zs:List Bool)(w:World)(hl:x.ls.length<=1048576)(ht:x.ts.length<=1048576)(hbl:bs.length<=1048576)(hzl:zs.length<=1048576)(h1:w.ownsRow 0 173 4 v1 x.ls.length (flat lkE x.ls))(h2:ZaU w v2 x.ts w.heap.size)(h3:Za6 w y bs w.heap.size)(h4:Za6 w z zs w.heap.size):
  Calls Tryz.prog 21 #[.agg #[M x.n,v1,v2],y,z] w fun e w'=>∃ o qs,e=.returned (.tuple #[o,.bool (ZbZ x bs zs)])/\fsts qs=Ze3 x bs zs/\tot qs<=2000/\RecsOwn w' w.heap.size w'.heap.size o qs/\T_ w w':=by
 by_cases hB:ZbZ x bs zs=true
 ·unfold Ze3;rw [hB,if_pos rfl];unfold ZbZ at hB;simp only [YAM,YAT] at hB;obtain⟨k1,k2,k3,k4,k5⟩:=Zen hB.1;obtain⟨n,ls,ts⟩:=x;simp only [] at *;obtain⟨N,rfl⟩:∃ N:Nat,n=(N:Int):=⟨n.toNat,by omega⟩;rw [show ((N:Int)).toNat=N by omega];refine (Znf v1 v2 y z N ls ts bs zs w hB.1 (by omega) k3 k4 h1 h2 h3 h4 hB.2.1 (by omega)).mono ?_;rintro e w' ⟨o,qs,h5,h6,h7,h8,h9⟩;exact⟨o,qs,h5,by rw [h6];exact ZqB hB.1,by omega,h8,h9⟩
 have hB:ZbZ x bs zs=false:=by cases e:ZbZ x bs zs with
  | false=>rfl
  | true=>exact absurd e hB
 unfold Ze3;rw [hB];simp only [Bool.false_eq_true,if_false];obtain⟨n,ls,ts⟩:=x;simp only [] at *;have hL:ZaV w v1 ls w.heap.size:=Zan h1;obtain⟨a1,c1,rfl⟩:=Zac h1;obtain⟨a2,c2,rfl⟩:=ZaU.shape h2;obtain⟨a3,c3,rfl⟩:=h3.shape;obtain⟨a4,c4,rfl⟩:=h4.shape;have HNO:=hide (fun W (hb:T_ w W)=>Zil (.agg #[M n,.slice a1 ls.length c1,.slice a2 ts.length c2]) ⟨n,ls,ts⟩ W hl ht ⟨_,_,rfl,Zaw.then hL hb,Zaw.then h2 hb⟩);have GX:=hide (YAE w (.cells #[M n,.slice a1 ls.length c1,.slice a2 ts.length c2] 27));have BX:T_ w (w.alloc (.cells #[M n,.slice a1 ls.length c1,.slice a2 ts.length c2] 27)):=(YAC _ _).alloc (YA _) _;clear h1 h2 h3 h4 hL;cases hok:Zbh ⟨n,ls,ts⟩ with
 | false=>
  have HOK:=hide hok;clear hok hB
  go_enter Tryz.func21,Tryz.ntmps21
  go_wp2_with fail
  refine (HNO _ BX).mono ?_;rintro e w2 ⟨rfl,b2⟩;rw [HOK.out];have B2:T_ w w2:=BX.trans (b2.mono BX.size);have g2:=(b2.block _ (Zab GX)).trans GX;have y0:=Zaa g2 0;have y1:=Zaa g2 1;simp at y0 y1;have R2:=hide (ZcN w2 w.heap.size B2.size);have B3:=hide (B2.alloc B2.size (.cells #[] 39));clear g2 b2;go_wp2;go_ret2;exact⟨_,[],rfl,rfl,by simp [tot],R2,B3⟩
 | true=>
  have HOK:=hide hok;unfold ZbZ at hB;simp only [hok,Bool.true_and,Bool.and_eq_false_iff,decide_eq_false_iff_not] at hB;clear hok;by_cases hlen:bs.length=ls.length
  ·have hup:((zs.length:Int) != n)=true:=by
    rcases hB with h | h
    ·exact absurd hlen h
    ·simpa using h
   rw [hlen] at *;clear hB hlen
   go_enter Tryz.func21,Tryz.ntmps21
   go_wp2_with fail
   refine (HNO _ BX).mono ?_;rintro e w2 ⟨rfl,b2⟩;rw [HOK.out];have B2:T_ w w2:=BX.trans (b2.mono BX.size);have g2:=(b2.block _ (Zab GX)).trans GX;have y0:=Zaa g2 0;have y1:=Zaa g2 1;simp at y0 y1;have R2:=hide (ZcN w2 w.heap.size B2.size);have B3:=hide (B2.alloc B2.size (.cells #[] 39));clear g2 b2;go_wp2;go_ret2;exact⟨_,[],rfl,rfl,by simp [tot],R2,B3⟩
  ·have hne:((bs.length:Int) != (ls.length:Int))=true:=by simp;omega
   clear hB hlen
   go_enter Tryz.func21,Tryz.ntmps21
   go_wp2_with fail
   refine (HNO _ BX).mono ?_;rintro e w2 ⟨rfl,b2⟩;rw [HOK.out];have B2:T_ w w2:=BX.trans (b2.mono BX.size);have g2:=(b2.block _ (Zab GX)).trans GX;have y0:=Zaa g2 0;have y1:=Zaa g2 1;simp at y0 y1;have R2:=hide (ZcN w2 w.heap.size B2.size);have B3:=hide (B2.alloc B2.size (.cells #[] 39));clear g2 b2;go_wp2;go_ret2;exact⟨_,[],rfl,rfl,by simp [tot],R2,B3⟩
structure RowOwn (W:World) (lo hi:Nat) (t:TypeId) (sz:Nat) (v:Value) (n:Nat) (xs:List Value):Prop where
 row:W.ownsRow lo t sz v n xs
 top:∀ k,v.ownBlock=some k->k<hi
theorem RowOwn.of {t:TypeId}{xs:List Value}(h:W.ownsRow lo t sz v n xs):RowOwn W lo W.heap.size t sz v n xs:=⟨h,fun k hk=>(h.lt k hk).2⟩
theorem RowOwn.below {W':World}{hi B:Nat}{t:TypeId}{xs:List Value}(h:RowOwn W lo hi t sz v n xs)(hb:Below B W W')(hB:hi<=B):RowOwn W' lo hi t sz v n xs:=
 ⟨Zal h.row (fun k hk=>hb.block k (by have:=h.top k hk;omega)),h.top⟩
theorem RowOwn.frame {W':World}{hi l2 h2:Nat}{t:TypeId}{xs:List Value}(h:RowOwn W lo hi t sz v n xs)(hb:Frame l2 h2 W W')(hB:hi<=l2\/h2<=lo):RowOwn W' lo hi t sz v n xs:=
 ⟨Zal h.row (fun k hk=>hb.block k (h.row.lt k hk).2 (by have h1:=h.top k hk;have h2:=(h.row.lt k hk).1;omega)),h.top⟩
theorem Zsm {m:Nat}(h:¬szN 1048576 n m<0):n+m<=1048576:=by
 unfold szN at h
 split at h
 ·omega
 ·split at h
  ·omega
  ·omega
theorem ZqJ (n:Int)(v1 v2:Value)(lo hi:Nat)(ls:List Lk)(ts:List Th)(c:Int)(w:World)(h1:RowOwn w lo hi 173 4 v1 ls.length (flat lkE ls))(h2:RowOwn w lo hi 119 4 v2 ts.length (flat thE ts))(hn:ls.length+ts.length<=1048576)(hc:0<=c)(hc2:c<=100):
  Calls Tryz.prog 40 #[.agg #[M n,v1,v2],M c] w fun e w'=>(∃ q:Int,e=.returned (M q)/\0<=q/\q<=10000000)/\Frame lo hi w w':=by
 refine (ZlC n v1 v2 lo ls ts c w h1.row h2.row (by omega) (by omega) hc (by omega)).mono ?_;rintro e w' ⟨rfl,_,_,f⟩;refine⟨⟨_,rfl,by omega,by omega⟩,f.os,f.tape,f.output,f.size,fun k hk hh=>f.block k hk ?_⟩;rintro (h | h)
 ·have a1:=h1.top k h;have a2:=(h1.row.lt k h).1;omega
 ·have a1:=h2.top k h;have a2:=(h2.row.lt k h).1;omega
theorem Zmr (v:Value)(lo hi:Nat)(bs:List Bool)(c:Int)(w:World)(h1:RowOwn w lo hi 4 1 v bs.length (flat blE bs))(hn:bs.length<=1048576)(hc:0<=c)(hc2:c<=100000000):
  Calls Tryz.prog 47 #[v,M c] w fun e w'=>(∃ q:Int,e=.returned (M q)/\0<=q/\q<=c+1048576)/\Frame lo hi w w':=by
 refine (ZlB v lo bs.length _ c w h1.row hn hc (by omega)).mono ?_;rintro e w' ⟨rfl,g⟩;exact⟨⟨_,rfl,by omega,by omega⟩,Frame.grown g (fun k e=>⟨(h1.row.lt k e).1,h1.top k e⟩)⟩
theorem Zj6 (v1 v2:Value)(bs:List Bool)(l1 h1 l2 h2:Nat)(w:World)(k1:RowOwn w l1 h1 4 1 v1 bs.length (flat blE bs))(k2:RowOwn w l2 h2 4 1 v2 bs.length (flat blE bs))(hn:bs.length<=1048576):
  Calls Tryz.prog 46 #[v1,v2] w fun e w'=>e=.returned (.bool true)/\T_ w w':=Zou v1 v2 bs w (Zan k1.row) (Zan k2.row) hn
theorem Zow (u1 u2 v1 v2:Value)(x:NetD)(l1 h1 l2 h2 l3 h3 l4 h4:Nat)(w:World)(k1:RowOwn w l1 h1 173 4 u1 x.ls.length (flat lkE x.ls))(k2:RowOwn w l2 h2 119 4 u2 x.ts.length (flat thE x.ts))(k3:RowOwn w l3 h3 173 4 v1 x.ls.length (flat lkE x.ls))(k4:RowOwn w l4 h4 119 4 v2 x.ts.length (flat thE x.ts))(hn:x.ls.length+x.ts.length<=1048576):
  Calls Tryz.prog 39 #[.agg #[M x.n,u1,u2],.agg #[M x.n,v1,v2]] w fun e w'=>e=.returned (.bool true)/\T_ w w':=by
 have h:=Zov (.agg #[M x.n,u1,u2]) (.agg #[M x.n,v1,v2]) x x w ⟨_,_,rfl,Zan k1.row,Zan k2.row⟩ ⟨_,_,rfl,Zan k3.row,Zan k4.row⟩ (by omega) (by omega);rw [YAc rfl] at h;exact h
def ZgC (x:NetD)(bs zs:List Bool)(node:Int):Bool:=ZbZ x bs zs&&inB node 1 x.n&&zs.getD (node-1).toNat false
def ZeU (x:NetD)(bs zs:List Bool)(node:Int)(l:List RtD):Prop:=if ZgC x bs zs node=true then ZcZ (Ze3 x bs zs) (Zay x.ls node) (ZeV x.ls node) node l else l=[]
theorem ZeU.unique {x:NetD}{l m:List RtD}(h:ZeU x bs zs node l)(h':ZeU x bs zs node m):l=m:=by
 unfold ZeU at h h'
 split at h
 ·rw [if_pos (by assumption)] at h';exact h.unique h'
 ·rw [if_neg (by assumption)] at h';rw [h,h']
theorem ZeO (W:World)(lo:Nat)(hb:lo<=W.heap.size):RtsOwn (W.alloc (.cells #[] 54)) lo (W.alloc (.cells #[] 54)).heap.size (.slice (some (U W.heap.size 0)) 0 0) [] where
 row:=YAe W #[] 0 hb (by unfold maxLen;omega) (by simp)
 top:=by intro k hk;simp [Value.ownBlock] at hk;subst hk;simp
 nears:=by simp
 apart:=by simp
theorem Zn1 (v1 v2 y z:Value)(x:NetD)(bs zs:List Bool)(node:Int)(w:World)(hl:x.ls.length<=1048576)(ht:x.ts.length<=1048576)(hbl:bs.length<=1048576)(hzl:zs.length<=1048576)(h1:w.ownsRow 0 173 4 v1 x.ls.length (flat lkE x.ls))(h2:ZaU w v2 x.ts w.heap.size)(h3:Za6 w y bs w.heap.size)(h4:Za6 w z zs w.heap.size):
  Calls Tryz.prog 43 #[.agg #[M x.n,v1,v2],y,z,M node] w fun e w'=>∃ o qs,e=.returned o/\ZeU x bs zs node (ZaO qs)/\RtsOwn w' w.heap.size w'.heap.size o qs/\T_ w w':=by
 obtain⟨a1,c1,rfl⟩:=Zac h1;obtain⟨a2,c2,rfl⟩:=h2.shape;obtain⟨a3,c3,rfl⟩:=h3.shape;obtain⟨a4,c4,rfl⟩:=h4.shape;have hw0:=YAE w (.cells #[M x.n,.slice a1 x.ls.length c1,.slice a2 x.ts.length c2] 27);have bw:=(YAC w.heap.size w).alloc (YA _) (.cells #[M x.n,.slice a1 x.ls.length c1,.slice a2 x.ts.length c2] 27);obtain⟨W1,hW1⟩:∃ W1,W1=w.alloc (.cells #[M x.n,.slice a1 x.ls.length c1,.slice a2 x.ts.length c2] 27):=⟨_,rfl⟩;rw [<-hW1] at hw0 bw;have HW1:=hide hW1;clear hW1;have HID:=hide (ZlT (.slice a1 x.ls.length c1) (.slice a2 x.ts.length c2) (.slice a3 bs.length c3) (.slice a4 zs.length c4) x bs zs W1 hl ht hbl hzl (Zad h1 bw (YA _)) (Zaw.then h2 bw) (Zaw.then h3 bw) (Zaw.then h4 bw));have HAL:=hide (show (Zay x.ls node).length<=1048576 from YAG (Zch x.ls _) (by omega));have HL1:=hide (Zaw.then (Zan h1) bw);have HZC:=hide h4;have hz:=Zab hw0;have hwg:=bw.size;have HW0:=hide hw0;have BW:=hide bw;have HIN:=hide (fun W=>ZbS node 1 x.n W);clear h1 h2 h3 h4 bw hw0;obtain⟨B,hB⟩:∃ B,B=ZbZ x bs zs:=⟨_,rfl⟩;rw [<-hB] at HID;have HB:=hide hB;clear hB
 go_enter Tryz.func43,Tryz.ntmps43
 go_wp2_with fail
 rw [<-HW1.out];refine HID.out.mono ?_;rintro e w2 ⟨o,qs,rfl,hf,htq,hown,b2⟩;obtain⟨oa,oc,rfl⟩:=Zac hown.row;have HF:=hide hf;have HO2:=hide hown;have hs2:=b2.size;have G2:=hide ((b2.block _ hz).trans HW0);have B2:=hide (BW.out.trans (b2.mono hwg));have HL2':=hide (Zaw.then HL1 b2);have HL2:=hide (Zaw.then HL2' (YAC w2.heap.size w2).drew);have hz2:=Zab G2;have s0:=Zaa G2.out 0;have s1:=Zaa G2.out 1;have s2:=Zaa G2.out 2;simp only [YAN,YAK,YAJ] at s0 s1 s2;clear hf hown b2 HW0 HW1 HL1 HID hz;have hz:=hz2;cases B
 case false=>
  have CND:ZbZ x bs zs=false:=HB.out.symm;have HC:=hide CND;clear CND;have LIT:=hide (ZeO w2 w2.heap.size (YA _));have BL:=hide (B2.out.alloc B2.out.size (.cells #[] 54));go_wp2;go_ret;exact⟨_,[],rfl,by unfold ZeU ZgC;rw [if_neg (by simp [HC.out])];rfl,LIT.out.wide B2.out.size (YA _),BL⟩
 case true=>
  have hI:ZbZ x bs zs=true:=HB.out.symm;have hI2:=hI;unfold ZbZ at hI2;simp only [YAM,YAT] at hI2;obtain⟨hnet,hbn,hzn⟩:=hI2;have HST:=hide (show ZaA (fsts qs)=true by
   rw [HF.out];unfold Ze3;rw [if_pos hI];obtain⟨hn1,hn6,_,_,_⟩:=Zen hnet;have h:=Zfc (ls:=x.ls) (ts:=x.ts) (bs:=bs) (zs:=zs) (N:=x.n.toNat) (by rw [show ((x.n.toNat:Nat):Int)=x.n by omega];exact hnet);exact h)
  have HLK:=hide (show ∀ l∈x.ls,Za0 x.n l=true by have h:=hnet;simp only [Zbh,YAM] at h;exact Zhp h.1.2);have HI:=hide hI;have HZN:=hide hzn;obtain⟨I,hIn⟩:∃ I,I=inB node 1 x.n:=⟨_,rfl⟩;rw [<-hIn] at HIN;have HINB:=hide (show inB node 1 x.n=I by rw [hIn]);have HIN2:=hide hIn;clear hI hnet hbn hzn hIn
  go_wp2_with fail
  refine (HIN _).mono ?_;rintro e w3 ⟨rfl,rfl⟩;cases I
  case false=>
   have CND:inB node 1 x.n=false:=HINB.out;have HC:=hide CND;clear CND;have LIT:=hide (ZeO w2 w2.heap.size (YA _));have BL:=hide (B2.out.alloc B2.out.size (.cells #[] 54));go_wp2;go_ret;exact⟨_,[],rfl,by unfold ZeU ZgC;rw [if_neg (by simp [HC.out])];rfl,LIT.out.wide B2.out.size (YA _),BL⟩
  case true=>
   obtain⟨m,rfl⟩:∃ m:Nat,node=(m:Int)+1:=by
    have h:=HINB.out;simp only [inB,YAM,YAT] at h;exact⟨(node-1).toNat,by omega⟩
   have hml:m<zs.length:=by
    have h:=HINB.out;have h2:=HZN.out;simp only [inB,YAM,YAT] at h;omega
   have hmi:(m:Int)<(zs.length:Int):=by omega
   obtain⟨ub,hub⟩:∃ b,zs[m]? = some b:=⟨zs[m],YAA hml⟩;obtain⟨ug,uo,uc0,huv,hug,ucell⟩:=HZC.out.cell m ub hub;obtain⟨rfl,rfl⟩:a4=some (U ug uo)/\c4=uc0:=by cases huv;exact⟨rfl,rfl⟩
   have u2:w2.cell? (U ug (uo+m))=some (.bool ub):=by rw [B2.out.cell (p:=(U ug (uo+m))) hug];exact ucell
   have HUP:=hide (show zs.getD ((m:Int)+1-1).toNat false=ub by rw [show ((m:Int)+1-1).toNat=m by omega];simp [List.getD,hub]);clear huv ucell hub;cases ub
   case false=>
    have HC:=HUP;have LIT:=hide (ZeO w2 w2.heap.size (YA _));have BL:=hide (B2.out.alloc B2.out.size (.cells #[] 54));go_wp2;go_ret;exact⟨_,[],rfl,by unfold ZeU ZgC;rw [if_neg (by rw [HC.out];simp)];rfl,LIT.out.wide B2.out.size (YA _),BL⟩
   case true=>
    have HCC:=hide (show ZgC x bs zs ((m:Int)+1)=true by unfold ZgC;rw [HI.out,HINB.out,HUP.out];rfl);obtain⟨node,hnode⟩:∃ node,node=(m:Int)+1:=⟨_,rfl⟩;have HND:=hide hnode
    go_wp2_with fail
    rw [<-HND.out];rw [<-HND.out] at HAL HCC;clear hnode;refine Zah (S:=(fun (W:World)=>W.cell? (U w.heap.size 0)=some (M x.n)/\W.cell? (U w.heap.size 1)=some (.slice a1 x.ls.length c1)/\W.cell? (U w.heap.size 2)=some (.slice a2 x.ts.length c2))) (by kernel_rfl) 10 rfl ⟨s0,s1,s2⟩ (fun ops hops hHeld=>?_);refine TD 0 ?_
    try simp only [putS]
    refine TD 1 ?_
    try simp only [putS]
    refine TD 2 ?_
    try simp only [putS]
    refine TD 4 ?_
    try simp only [putS]
    refine TD 5 ?_
    try simp only [putS]
    refine TD 7 ?_
    try simp only [putS]
    refine TC 3 ?_;intro K hK;go_simp;refine (Zgh (M x.n) (.slice a1 x.ls.length c1) (.slice a2 x.ts.length c2) x.ls node _ hl HL2).mono ?_;rintro e wa ⟨u,rfl,hu,ba⟩;rw [<-ZbL] at hu;obtain⟨ua,uc,rfl⟩:=Zac hu;have HU:=hide hu;have hsa:=ba.size;clear hu;refine hK _ _ ?_ (fun hHeld=>?_)
    ·obtain ⟨m0,m1,m2⟩:=hHeld;exact⟨(ba.cell hz).trans m0,(ba.cell hz).trans m1,(ba.cell hz).trans m2⟩
    clear hK K
    try simp only [putS]
    have HLA:=hide (Zaw.then HL2 ba);refine TC 6 ?_;intro K hK;go_simp;refine (ZhD (M x.n) (.slice a1 x.ls.length c1) (.slice a2 x.ts.length c2) x.ls node _ hl HLA).mono ?_;rintro e wb ⟨rfl,bb⟩;have hsb:=bb.size;refine hK _ _ ?_ (fun hHeld=>?_)
    ·obtain ⟨m0,m1,m2⟩:=hHeld;exact⟨(bb.cell (YAB hz ba.size)).trans m0,(bb.cell (YAB hz ba.size)).trans m1,(bb.cell (YAB hz ba.size)).trans m2⟩
    clear hK K
    try simp only [putS]
    have HUB:=hide (Za9 (Zad HU bb (YA _)));have HOB:=hide (HO2.out.below ((YAC w2.heap.size w2).drew.trans (ba.trans (bb.mono ba.size))) (YA _));refine TC 8 ?_;intro K hK;go_simp;refine (ZlV (.slice oa qs.length oc) (.slice ua (Zay x.ls node).length uc) qs (Zay x.ls node) wb.heap.size (ZeV x.ls node) node wb (HOB.out.wide (Nat.zero_le _) (by have:w2.drew.heap.size=w2.heap.size:=rfl;omega)).in HUB (YA _) (by omega) HAL HST).mono ?_;rintro e wc ⟨v9,rs,rfl,hir,hrs,bc⟩;obtain⟨xa,xc,rfl⟩:=Zac hrs.row;have HIR:=hide hir;have HRS:=hide hrs;clear hir hrs;refine hK _ _ ?_ (fun hHeld=>?_)
    ·obtain ⟨m0,m1,m2⟩:=hHeld;exact⟨(bc.cell (YAB hz (YAG ba.size bb.size))).trans m0,(bc.cell (YAB hz (YAG ba.size bb.size))).trans m1,(bc.cell (YAB hz (YAG ba.size bb.size))).trans m2⟩
    clear hK K
    try simp only [putS]
    refine TD 9 ?_
    try simp only [putS]
    refine wpAnyH_done (by rw [hops.out];kernel_rfl) ?_ _;clear hops ops;have B9:=hide (B2.out.drew.trans ((ba.trans ((bb.mono ba.size).trans (bc.mono (YAG ba.size bb.size)))).mono B2.out.size));have hfin:w.heap.size<=wb.heap.size:=by have:=B2.out.size;have h1:=ba.size;have h2:w2.drew.heap.size=w2.heap.size:=rfl;omega
    clear s0 s1 s2 u2 ba bb bc;go_wp2;go_ret;rw [HF.out] at HIR;exact⟨_,rs,rfl,by rw [<-HND.out];unfold ZeU;rw [if_pos HCC.out];exact HIR,HRS.out.wide hfin (YA _),B9⟩
theorem Zno (v1 v2 y z:Value)(x:NetD)(bs zs:List Bool)(node:Int)(w:World)(hl:x.ls.length<=1048576)(ht:x.ts.length<=1048576)(hbl:bs.length<=1048576)(hzl:zs.length<=1048576)(h1:w.ownsRow 0 173 4 v1 x.ls.length (flat lkE x.ls))(h2:ZaU w v2 x.ts w.heap.size)(h3:Za6 w y bs w.heap.size)(h4:Za6 w z zs w.heap.size):
  Calls Tryz.prog 23 #[.agg #[M x.n,v1,v2],y,z,M node] w fun e w'=>∃ o qs,e=.returned o/\ZeU x bs zs node (ZaO qs)/\RtsOwn w' w.heap.size w'.heap.size o qs/\T_ w w':=by
 obtain⟨a1,c1,rfl⟩:=Zac h1;obtain⟨a2,c2,rfl⟩:=h2.shape;obtain⟨a3,c3,rfl⟩:=h3.shape;obtain⟨a4,c4,rfl⟩:=h4.shape;have hw0:=YAE w (.cells #[M x.n,.slice a1 x.ls.length c1,.slice a2 x.ts.length c2] 27);have bw:=(YAC w.heap.size w).alloc (YA _) (.cells #[M x.n,.slice a1 x.ls.length c1,.slice a2 x.ts.length c2] 27);obtain⟨W1,hW1⟩:∃ W1,W1=w.alloc (.cells #[M x.n,.slice a1 x.ls.length c1,.slice a2 x.ts.length c2] 27):=⟨_,rfl⟩;rw [<-hW1] at hw0 bw;have HW1:=hide hW1;clear hW1;have HID:=hide (Zlo (.slice a1 x.ls.length c1) (.slice a2 x.ts.length c2) (.slice a3 bs.length c3) (.slice a4 zs.length c4) x bs zs W1 hl ht hbl hzl (Zad h1 bw (YA _)) (Zaw.then h2 bw) (Zaw.then h3 bw) (Zaw.then h4 bw));have HAL:=hide (show (Zay x.ls node).length<=1048576 from YAG (Zch x.ls _) (by omega));have HL1:=hide (Zaw.then (Zan h1) bw);have HZC:=hide h4;have hz:=Zab hw0;have hwg:=bw.size;have HW0:=hide hw0;have BW:=hide bw;have HIN:=hide (fun W=>Zba node 1 (zs.length:Int) W);clear h1 h2 h3 h4 bw hw0;obtain⟨B,hB⟩:∃ B,B=ZbZ x bs zs:=⟨_,rfl⟩;rw [<-hB] at HID;have HB:=hide hB;clear hB
 go_enter Tryz.func23,Tryz.ntmps23
 go_wp2_with fail
 rw [<-HW1.out];refine HID.out.mono ?_;rintro e w2 ⟨o,qs,rfl,hf,htq,hown,b2⟩;obtain⟨oa,oc,rfl⟩:=Zac hown.row;have HF:=hide hf;have HO2:=hide hown;have hs2:=b2.size;have G2:=hide ((b2.block _ hz).trans HW0);have B2:=hide (BW.out.trans (b2.mono hwg));have HL2':=hide (Zaw.then HL1 b2);have HL2:=hide (Zaw.then HL2' (YAC w2.heap.size w2).drew);have hz2:=Zab G2;have s0:=Zaa G2.out 0;have s1:=Zaa G2.out 1;have s2:=Zaa G2.out 2;simp only [YAN,YAK,YAJ] at s0 s1 s2;clear hf hown b2 HW0 HW1 HL1 HID hz;have hz:=hz2;cases B
 case false=>
  have CND:ZbZ x bs zs=false:=HB.out.symm;have HC:=hide CND;clear CND;have LIT:=hide (ZeO w2 w2.heap.size (YA _));have BL:=hide (B2.out.alloc B2.out.size (.cells #[] 54));go_wp2;go_ret;exact⟨_,[],rfl,by unfold ZeU ZgC;rw [if_neg (by simp [HC.out])];rfl,LIT.out.wide B2.out.size (YA _),BL⟩
 case true=>
  have hI:ZbZ x bs zs=true:=HB.out.symm;have hI2:=hI;unfold ZbZ at hI2;simp only [YAM,YAT] at hI2;obtain⟨hnet,hbn,hzn⟩:=hI2;have HST:=hide (show ZaA (fsts qs)=true by
   rw [HF.out];unfold Ze3;rw [if_pos hI];obtain⟨hn1,hn6,_,_,_⟩:=Zen hnet;have h:=Zfc (ls:=x.ls) (ts:=x.ts) (bs:=bs) (zs:=zs) (N:=x.n.toNat) (by rw [show ((x.n.toNat:Nat):Int)=x.n by omega];exact hnet);exact h)
  have HLK:=hide (show ∀ l∈x.ls,Za0 x.n l=true by have h:=hnet;simp only [Zbh,YAM] at h;exact Zhp h.1.2);have HI:=hide hI;have HZN:=hide hzn;obtain⟨I,hIn⟩:∃ I,I=inB node 1 (zs.length:Int):=⟨_,rfl⟩;rw [<-hIn] at HIN;have HINB:=hide (show inB node 1 x.n=I by rw [hIn];rw [HZN.out]);have HIN2:=hide hIn;clear hI hnet hbn hzn hIn
  go_wp2_with fail
  refine (HIN _).mono ?_;rintro e w3 ⟨rfl,rfl⟩;cases I
  case false=>
   have CND:inB node 1 x.n=false:=HINB.out;have HC:=hide CND;clear CND;have LIT:=hide (ZeO w2 w2.heap.size (YA _));have BL:=hide (B2.out.alloc B2.out.size (.cells #[] 54));go_wp2;go_ret;exact⟨_,[],rfl,by unfold ZeU ZgC;rw [if_neg (by simp [HC.out])];rfl,LIT.out.wide B2.out.size (YA _),BL⟩
  case true=>
   obtain⟨m,rfl⟩:∃ m:Nat,node=(m:Int)+1:=by
    have h:=HINB.out;simp only [inB,YAM,YAT] at h;exact⟨(node-1).toNat,by omega⟩
   have hml:m<zs.length:=by
    have h:=HINB.out;have h2:=HZN.out;simp only [inB,YAM,YAT] at h;omega
   have hmi:(m:Int)<(zs.length:Int):=by omega
   obtain⟨ub,hub⟩:∃ b,zs[m]? = some b:=⟨zs[m],YAA hml⟩;obtain⟨ug,uo,uc0,huv,hug,ucell⟩:=HZC.out.cell m ub hub;obtain⟨rfl,rfl⟩:a4=some (U ug uo)/\c4=uc0:=by cases huv;exact⟨rfl,rfl⟩
   have u2:w2.cell? (U ug (uo+m))=some (.bool ub):=by rw [B2.out.cell (p:=(U ug (uo+m))) hug];exact ucell
   have HUP:=hide (show zs.getD ((m:Int)+1-1).toNat false=ub by rw [show ((m:Int)+1-1).toNat=m by omega];simp [List.getD,hub]);clear huv ucell hub;cases ub
   case false=>
    have HC:=HUP;have LIT:=hide (ZeO w2 w2.heap.size (YA _));have BL:=hide (B2.out.alloc B2.out.size (.cells #[] 54));go_wp2;go_ret;exact⟨_,[],rfl,by unfold ZeU ZgC;rw [if_neg (by rw [HC.out];simp)];rfl,LIT.out.wide B2.out.size (YA _),BL⟩
   case true=>
    have HCC:=hide (show ZgC x bs zs ((m:Int)+1)=true by unfold ZgC;rw [HI.out,HINB.out,HUP.out];rfl);obtain⟨node,hnode⟩:∃ node,node=(m:Int)+1:=⟨_,rfl⟩;have HND:=hide hnode
    go_wp2_with fail
    rw [<-HND.out];rw [<-HND.out] at HAL HCC;clear hnode;refine Zah (S:=(fun (W:World)=>W.cell? (U w.heap.size 0)=some (M x.n)/\W.cell? (U w.heap.size 1)=some (.slice a1 x.ls.length c1)/\W.cell? (U w.heap.size 2)=some (.slice a2 x.ts.length c2))) (by kernel_rfl) 10 rfl ⟨s0,s1,s2⟩ (fun ops hops hHeld=>?_);refine TD 0 ?_
    try simp only [putS]
    refine TD 1 ?_
    try simp only [putS]
    refine TD 2 ?_
    try simp only [putS]
    refine TD 4 ?_
    try simp only [putS]
    refine TD 5 ?_
    try simp only [putS]
    refine TD 7 ?_
    try simp only [putS]
    refine TC 3 ?_;intro K hK;go_simp;refine (ZeD (M x.n) (.slice a1 x.ls.length c1) (.slice a2 x.ts.length c2) x.ls node _ hl HL2).mono ?_;rintro e wa ⟨u,rfl,hu,ba⟩;rw [<-ZbL] at hu;rw [ZdF HLK.out] at hu;obtain⟨ua,uc,rfl⟩:=Zac hu;have HU:=hide hu;have hsa:=ba.size;clear hu;refine hK _ _ ?_ (fun hHeld=>?_)
    ·obtain ⟨m0,m1,m2⟩:=hHeld;exact⟨(ba.cell hz).trans m0,(ba.cell hz).trans m1,(ba.cell hz).trans m2⟩
    clear hK K
    try simp only [putS]
    have HLA:=hide (Zaw.then HL2 ba);refine TC 6 ?_;intro K hK;go_simp;refine (Zg8 (M x.n) (.slice a1 x.ls.length c1) (.slice a2 x.ts.length c2) x.ls node _ hl HLA).mono ?_;rintro e wb ⟨rfl,bb⟩;have hsb:=bb.size;rw [ZjY HLK.out];refine hK _ _ ?_ (fun hHeld=>?_)
    ·obtain ⟨m0,m1,m2⟩:=hHeld;exact⟨(bb.cell (YAB hz ba.size)).trans m0,(bb.cell (YAB hz ba.size)).trans m1,(bb.cell (YAB hz ba.size)).trans m2⟩
    clear hK K
    try simp only [putS]
    have HUB:=hide (Za9 (Zad HU bb (YA _)));have HOB:=hide (HO2.out.below ((YAC w2.heap.size w2).drew.trans (ba.trans (bb.mono ba.size))) (YA _));refine TC 8 ?_;intro K hK;go_simp;refine (Zlu (.slice oa qs.length oc) (.slice ua (Zay x.ls node).length uc) qs (Zay x.ls node) wb.heap.size (ZeV x.ls node) node wb (HOB.out.wide (Nat.zero_le _) (by have:w2.drew.heap.size=w2.heap.size:=rfl;omega)).in HUB (YA _) (by omega) HAL HST).mono ?_;rintro e wc ⟨v9,rs,rfl,hir,hrs,bc⟩;obtain⟨xa,xc,rfl⟩:=Zac hrs.row;have HIR:=hide hir;have HRS:=hide hrs;clear hir hrs;refine hK _ _ ?_ (fun hHeld=>?_)
    ·obtain ⟨m0,m1,m2⟩:=hHeld;exact⟨(bc.cell (YAB hz (YAG ba.size bb.size))).trans m0,(bc.cell (YAB hz (YAG ba.size bb.size))).trans m1,(bc.cell (YAB hz (YAG ba.size bb.size))).trans m2⟩
    clear hK K
    try simp only [putS]
    refine TD 9 ?_
    try simp only [putS]
    refine wpAnyH_done (by rw [hops.out];kernel_rfl) ?_ _;clear hops ops;have B9:=hide (B2.out.drew.trans ((ba.trans ((bb.mono ba.size).trans (bc.mono (YAG ba.size bb.size)))).mono B2.out.size));have hfin:w.heap.size<=wb.heap.size:=by have:=B2.out.size;have h1:=ba.size;have h2:w2.drew.heap.size=w2.heap.size:=rfl;omega
    clear s0 s1 s2 u2 ba bb bc;go_wp2;go_ret;rw [HF.out] at HIR;exact⟨_,rs,rfl,by rw [<-HND.out];unfold ZeU;rw [if_pos HCC.out];exact HIR,HRS.out.wide hfin (YA _),B9⟩
end Go.Proofs.YtcnjnibnecpddaaGreat
