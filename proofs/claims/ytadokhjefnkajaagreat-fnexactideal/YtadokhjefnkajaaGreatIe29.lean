/-
  PutMath NodI GMath ILinked
-/
import Derived.Test.YtadokhjefnkajaaGreatIe28
import Derived.Test.YtadokhjefnkajaaGreatIe19
import Derived.Test.YtadokhjefnkajaaGreatIe20
import Derived.Test.YtadokhjefnkajaaGreatIe13
import Derived.Test.YtadokhjefnkajaaGreatIe3
namespace Go.Proofs.YtadokhjefnkajaaGreat
open Go.RowKit

theorem Zcv {x y z:RecD}(h1:Zam x y=true)(h2:Zam y z=true):Zam x z=true:=by
 unfold Zam at *;simp only [Bool.or_eq_true,Bool.and_eq_true,decide_eq_true_eq,beq_iff_eq] at *
 omega

theorem ZeB {x y z:RecD}(h1:Zaw x y=true)(h2:Zam x z=true):Zam y z=true:=by
 unfold Zam Zaw at *;simp only [Bool.or_eq_true,Bool.and_eq_true,decide_eq_true_eq,beq_iff_eq] at *
 omega

theorem Zbk {x y:RecD}(h1:Zaw x y=true):Zam x y=false/\Zam y x=false:=by
 unfold Zam Zaw at *;simp only [Bool.or_eq_false_iff,Bool.and_eq_false_iff,decide_eq_false_iff_not,beq_eq_false_iff_ne,Bool.and_eq_true,beq_iff_eq] at *
 omega

theorem Zhx (x y:RecD):Zam x y=true\/Zaw x y=true\/Zam y x=true:=by
 unfold Zam Zaw;simp only [Bool.or_eq_true,Bool.and_eq_true,decide_eq_true_eq,beq_iff_eq]
 omega

theorem ZdI (x y:RecD):ordR x y<0↔Zam x y=true:=by
 rw [<-ZfI];simp

theorem Zi2 (x y:RecD):ordR x y=0↔Zaw x y=true:=by
 unfold ordR cmpK Zaw;simp only [Bool.and_eq_true,beq_iff_eq]
 by_cases h1:x.area=y.area
 ·rw [if_pos (Za4.2 h1)]
  by_cases h2:x.kind=y.kind
  ·rw [if_pos (Za4.2 h2)]
   by_cases h3:x.owner=y.owner
   ·rw [if_pos (Za4.2 h3),Za4]
    simp [h1,h2,h3]
   ·rw [if_neg (fun h=>h3 (Za4.1 h)),Za4]
    simp [h3]
  ·rw [if_neg (fun h=>h2 (Za4.1 h)),Za4]
   simp [h2]
 ·rw [if_neg (fun h=>h1 (Za4.1 h)),Za4]
  simp [h1]

def Asc (xs:List RecD):Prop:=xs.Pairwise (fun x y=>Zam x y=true)

theorem asc_of {xs:List RecD}(h:ascB ordR xs=true):Asc xs:=by
 unfold Asc;rw [List.pairwise_iff_getElem];have step:∀ i (h2:i+1<xs.length),Zam xs[i] xs[i+1]=true:=by
  intro i h2;have h3:=List.all_eq_true.1 h (i+1) (List.mem_range.2 h2);rw [ZbW (List.getElem?_eq_getElem (by omega)) (List.getElem?_eq_getElem h2),ZfI] at h3
  exact h3
 have main:∀ d i (h2:i+1+d<xs.length),Zam xs[i] (xs[i+1+d])=true:=by
  intro d
  induction d with
  | zero=>intro i h2;exact step i h2
  | succ d ih=>intro i h2;exact Zcv (ih i (by omega)) (step (i+1+d) h2)
 intro i j hi hj hij;have h2:=main (j-i-1) i (by omega)
 have e:i+1+(j-i-1)=j:=by omega
 simp only [e] at h2
 exact h2

theorem Zkw {xs:List RecD}(h:Asc xs):ascB ordR xs=true:=by
 unfold Asc at h;rw [List.pairwise_iff_getElem] at h;refine Za9 fun j hj=>?_
 cases j with
 | zero=>rfl
 | succ k=>
  rw [ZbW (List.getElem?_eq_getElem (by omega)) (List.getElem?_eq_getElem hj),ZfI]
  exact h k (k+1) (by omega) hj (by omega)

theorem Zhv {xs:List RecD}(h:Asc xs)(r:RecD):∀ s t,s<=t->t<xs.length->ltAt xs r t->ltAt xs r s:=by
 intro s t hst ht hl;unfold Asc at h;rw [List.pairwise_iff_getElem] at h;have h1:=(ZcL (List.getElem?_eq_getElem ht)).1 hl;refine (ZcL (List.getElem?_eq_getElem (by omega))).2 ?_
 by_cases e:s=t
 ·subst e;exact h1
 ·rw [ZdI] at h1 |-
  exact Zcv (h s t (by omega) ht (by omega)) h1

def putD (xs:List RecD)(r:RecD):List RecD:=xs.filter (fun x=>Zam x r)++[r]++xs.filter (fun x=>Zam r x)

theorem Ze0 (ps:List RP)(r:RP):fsts (putL ps r)=putD (fsts ps) r.1:=by
 unfold putL putD fsts;simp [List.filter_map,Function.comp_def]

section
variable {xs:List RecD} {r:RecD} {i:Nat}

theorem ZjC (hi:i<=xs.length)(h1:∀ t,t<i->ltAt xs r t)(h2:∀ t,i<=t->t<xs.length->¬ltAt xs r t):xs.filter (fun x=>Zam x r)=xs.take i:=by
 conv=>lhs;rw [<-List.take_append_drop i xs]
 rw [List.filter_append];have e1:(xs.take i).filter (fun x=>Zam x r)=xs.take i:=by
  rw [List.filter_eq_self];intro x hx;obtain⟨t,ht,e⟩:=List.getElem_of_mem hx;rw [List.length_take] at ht;rw [List.getElem_take] at e;have:=(ZcL (List.getElem?_eq_getElem (show t<xs.length by omega))).1 (h1 t (by omega))
  rw [e,ZdI] at this;exact this
 have e2:(xs.drop i).filter (fun x=>Zam x r)=[]:=by
  rw [List.filter_eq_nil_iff];intro x hx hb;obtain⟨t,ht,e⟩:=List.getElem_of_mem hx;rw [List.length_drop] at ht;rw [List.getElem_drop] at e;refine h2 (i+t) (by omega) (by omega) ((ZcL (List.getElem?_eq_getElem (by omega))).2 ?_)
  rw [e,ZdI];exact hb
 rw [e1,e2,List.append_nil]

theorem Zfq (h1:∀ t,t<i->ltAt xs r t)(hi:i<=xs.length):(xs.take i).filter (fun x=>Zam r x)=[]:=by
 rw [List.filter_eq_nil_iff];intro x hx hb;obtain⟨t,ht,e⟩:=List.getElem_of_mem hx;rw [List.length_take] at ht;rw [List.getElem_take] at e;have:=(ZcL (List.getElem?_eq_getElem (show t<xs.length by omega))).1 (h1 t (by omega))
 rw [e,ZdI] at this;rw [Zdg this] at hb;cases hb

theorem Zk4 (hs:Asc xs)(hi:i<=xs.length)(h1:∀ t,t<i->ltAt xs r t)(h2:∀ t,i<=t->t<xs.length->¬ltAt xs r t)(h3:¬∃ x,xs[i]? = some x/\ordR x r=0):putD xs r=xs.take i++[r]++xs.drop i:=by
 unfold putD;rw [ZjC hi h1 h2]
 congr 1
 conv=>lhs;rw [<-List.take_append_drop i xs]
 rw [List.filter_append,Zfq h1 hi,List.nil_append,List.filter_eq_self];unfold Asc at hs;rw [List.pairwise_iff_getElem] at hs;intro x hx;obtain⟨t,ht,e⟩:=List.getElem_of_mem hx;rw [List.length_drop] at ht;rw [List.getElem_drop] at e;have hin:i<xs.length:=by omega
 have hfirst:Zam r xs[i]=true:=by
  rcases Zhx xs[i] r with h | h | h
  ·exact absurd ((ZcL (List.getElem?_eq_getElem hin)).2 ((ZdI _ _).2 h)) (h2 i (Nat.le_refl _) hin)
  ·exact absurd ⟨xs[i],List.getElem?_eq_getElem hin,(Zi2 _ _).2 h⟩ h3
  ·exact h
 by_cases e0:t=0
 ·subst e0
  simp only [Nat.add_zero] at e
  rw [<-e];exact hfirst
 ·rw [<-e]
  exact Zcv hfirst (hs i (i+t) hin (by omega) (by omega))

theorem Zk5 (hs:Asc xs)(hi:i<xs.length)(h1:∀ t,t<i->ltAt xs r t)(h2:∀ t,i<=t->t<xs.length->¬ltAt xs r t)(h3:ordR xs[i] r=0):putD xs r=xs.set i r:=by
 have hsame:=(Zi2 _ _).1 h3;have e0:xs.drop i=xs[i]::xs.drop (i+1):=List.drop_eq_getElem_cons hi;unfold putD;rw [ZjC (Nat.le_of_lt hi) h1 h2];have e1:xs.filter (fun x=>Zam r x)=xs.drop (i+1):=by
  conv=>lhs;rw [<-List.take_append_drop i xs]
  rw [List.filter_append,Zfq h1 (Nat.le_of_lt hi),List.nil_append,e0,List.filter_cons,if_neg (by rw [(Zbk hsame).2];simp),List.filter_eq_self]
  unfold Asc at hs;rw [List.pairwise_iff_getElem] at hs;intro x hx;obtain⟨t,ht,e⟩:=List.getElem_of_mem hx;rw [List.length_drop] at ht;rw [List.getElem_drop] at e;rw [<-e];exact ZeB hsame (hs i (i+1+t) hi (by omega) (by omega))
 rw [e1]
 apply List.ext_getElem?
 intro j;by_cases hj:j<i
 ·rw [List.getElem?_set_ne (by omega),List.append_assoc,List.getElem?_append_left (by simp;omega),List.getElem?_take_of_lt hj]
 ·by_cases hje:j=i
  ·subst hje
   rw [List.getElem?_set_self hi,List.append_assoc,List.getElem?_append_right (by simp;omega),List.length_take,Nat.min_eq_left (by omega),Nat.sub_self]
   rfl
  ·rw [List.getElem?_set_ne (by omega),List.append_assoc,List.getElem?_append_right (by simp;omega),List.length_take,Nat.min_eq_left (by omega),List.getElem?_append_right (by simp;omega),List.getElem?_drop]
   congr 1
   simp
   omega
end
end Go.Proofs.YtadokhjefnkajaaGreat
namespace Go.Proofs.YtadokhjefnkajaaGreat
open Go.RowKit
set_option linter.unusedSimpArgs false
set_option linter.unusedVariables false
set_option maxRecDepth 100000
set_option maxHeartbeats 8000000
def nodR (x:SelfD)(a:Int):RecD:=⟨a,1,x.id,0,0,hinD x.net.ls x.id a (ZaJ x.heard),0,false⟩
def nodD (x:SelfD)(al:List Int):List RecD:=al.map (nodR x)
theorem ZoC {x:SelfD}{al:List Int}{k:Nat}{a:Int}(h:al[k]? = some a):nodD x (al.take (k+1))=nodD x (al.take k)++[nodR x a]:=by
 obtain⟨hk,e⟩:=List.getElem?_eq_some_iff.1 h;unfold nodD;rw [List.take_succ_eq_append_getElem hk,e,List.map_append]
 rfl
theorem Znd (x:SelfD)(al:List Int):(nodD x al).length=al.length:=by simp [nodD]
theorem Zc4 (ls:List Lk)(f:Int):(ZbK ls f).length<=3:=by
 unfold ZbK;exact Nat.le_trans (List.length_filter_le _ _) (by simp)
theorem Zne (v1 v2 v3 v4:Value)(x:SelfD)(w:World)(hl:x.net.ls.length<=1048576)(hh:x.heard.length<=1048576)(h1:ZaS w v1 x.net.ls w.heap.size)(h3:ZaM w v3 x.heard w.heap.size):
  Calls Tryz.prog 74 #[Zkh x v1 v2 v3 v4] w fun e w'=>∃ u qs,e=.returned u/\fsts qs=nodD x (ZbK x.net.ls x.id)/\RecsOwn w' w.heap.size w'.heap.size u qs/\Below w.heap.size w w':=by
 obtain⟨a1,c1,rfl⟩:=ZaS.shape h1;obtain⟨a3,c3,rfl⟩:=h3.shape;have HA:=hide (fun W (hb:Below w.heap.size w W)=>Zfe (.int .i64 x.net.n) (.slice a1 x.net.ls.length c1) v2 x.net.ls x.id W hl (ZaE.then h1 hb))
 have HE:=hide (fun W (hb:Below w.heap.size w W) (a:Int)=>ZjK (.slice a1 x.net.ls.length c1) v2 (.slice a3 x.heard.length c3) v4 x a W hl hh (ZaE.then h1 hb) (h3.then hb))
 have hle3:=Zc4 x.net.ls x.id;clear h1 h3;have G0:=hide (heap_alloc_new w (.cells #[.int .i64 x.id,.int .i64 x.boot,.int .i64 x.net.n,.slice a1 x.net.ls.length c1,v2,.slice a3 x.heard.length c3,v4] 31));have B0:Below w.heap.size w (w.alloc (.cells #[.int .i64 x.id,.int .i64 x.boot,.int .i64 x.net.n,.slice a1 x.net.ls.length c1,v2,.slice a3 x.heard.length c3,v4] 31)):=(Below.refl _ _).alloc (Nat.le_refl _) _;obtain⟨al,hasE⟩:∃ al,al=ZbK x.net.ls x.id:=⟨_,rfl⟩;rw [<-hasE] at HA hle3 |-;clear hasE;unfold Zkh at HE
 go_enter Tryz.func74,Tryz.ntmps74
 go_wp2_with fail
 refine (HA.out _ B0).mono ?_
 rintro e w1 ⟨u,rfl,hu,b1⟩;obtain⟨ea,ec,rfl⟩:=Zac hu;have B1:Below w.heap.size w w1:=B0.trans (b1.mono B0.size);have hg1:=(b1.block _ (Zab G0.out)).trans G0.out;have hs1:=b1.size;have hz1:w.heap.size<w1.heap.size:=Zab hg1;have EA:=hide (show ZaM w1 (.slice ea al.length ec) al w1.heap.size from Zap (by rw [<-Zb3] at hu;exact hu))
 have z0:=Zaa hg1 0;have z1:=Zaa hg1 1;have z2:=Zaa hg1 2;have z3:=Zaa hg1 3;have z4:=Zaa hg1 4;have z5:=Zaa hg1 5;have z6:=Zaa hg1 6;simp at z0 z1 z2 z3 z4 z5 z6
 clear hg1 hu b1 G0 B0 HA
 go_wp2
 go_loopw [12,3] (fun i o wr=>∃ (k:Nat) (qs:List RP) (u:Value),k<=al.length/\i=.int .i64 k/\o=u/\Hid (fsts qs=nodD x (al.take k))/\Hid (RecsOwn wr w1.heap.size wr.heap.size u qs)/\Below w1.heap.size w1 wr) (fun i _ _=>al.length-(intOf i).toNat)
 case atStart=>exact ⟨0,[],_,by omega,rfl,rfl,hide (by simp [fsts,nodD]),hide ⟨World.ownsRow_nil _ _ _ _,by intro k hk;simp [Value.ownBlock] at hk,by simp,List.Pairwise.nil⟩,Below.refl _ _⟩
 case round=>
  obtain⟨k,qs,u,hk,rfl,rfl,HM,OW,hnx⟩:=hrel;obtain⟨ua,uc,rfl⟩:=Zac OW.out.row;have hsz:=hnx.size;by_cases hlt:k<al.length
  ·obtain ⟨a,ha⟩:∃ a,al[k]? = some a:=⟨al[k],List.getElem?_eq_getElem hlt⟩
   obtain⟨b,off,cap',hve,hbb,d0⟩:=EA.out.cell k a ha;cases hve
   rw [<-hnx.cell (p:=⟨b,off+k,none⟩) hbb] at d0;have HST:=hide (ZoC (x:=x) ha);have hki:(0:Int)<=(k:Int):=by omega
   have hkj:(k:Int)<(al.length:Int):=by omega
   have HQL:=hide (show qs.length<=3 by
    have h1:=congrArg List.length HM.out;rw [Znd] at h1;simp [fsts] at h1
    omega)
   clear ha;rw [<-hnx.cell (p:=⟨w.heap.size,0,none⟩) hz1] at z0;rw [<-hnx.cell (p:=⟨w.heap.size,1,none⟩) hz1] at z1;rw [<-hnx.cell (p:=⟨w.heap.size,2,none⟩) hz1] at z2;rw [<-hnx.cell (p:=⟨w.heap.size,3,none⟩) hz1] at z3;rw [<-hnx.cell (p:=⟨w.heap.size,4,none⟩) hz1] at z4;rw [<-hnx.cell (p:=⟨w.heap.size,5,none⟩) hz1] at z5;rw [<-hnx.cell (p:=⟨w.heap.size,6,none⟩) hz1] at z6;have HCX:=hide (HE.out wr.drew (B1.trans (hnx.mono B1.size)).drew a);have NE0:some w.heap.size≠(Value.slice ua qs.length uc).ownBlock:=fun e=>by have:=(OW.out.row.lt _ e.symm).1;omega
   have hz2:w.heap.size<wr.heap.size:=by omega
   have hz3:w.heap.size<wr.drew.heap.size:=hz2
   go_wp2
   -- REGION
   refine Zag (S:=(fun (W:World)=>W.cell? ⟨w.heap.size,0,none⟩=some (.int .i64 x.id)/\W.cell? ⟨w.heap.size,1,none⟩=some (.int .i64 x.boot)/\W.cell? ⟨w.heap.size,2,none⟩=some (.int .i64 x.net.n)/\W.cell? ⟨w.heap.size,3,none⟩=some (.slice a1 x.net.ls.length c1)/\W.cell? ⟨w.heap.size,4,none⟩=some (v2)/\W.cell? ⟨w.heap.size,5,none⟩=some (.slice a3 x.heard.length c3)/\W.cell? ⟨w.heap.size,6,none⟩=some (v4))) (by kernel_rfl) 11 rfl ⟨z0,z1,z2,z3,z4,z5,z6⟩ (fun ops hops hHeld=>?_)
   iterate 6
    refine Zar 11 ?_ ?_ ?_ (by rw [hops.out];kernel_rfl) ?_ ?_ (by assumption) ?_
    rotate_left 2
    ·rw [hops.out];simp only [getS,Nat.reduceSub,Nat.reduceAdd];rfl
    ·intro W hW;(try dsimp only at hW);go_simp <;> with_reducible rfl
    ·exact fun _ _ _=>id
    try simp only [putS]
   refine Zak 6 (oi:=?_) ?_ (by rw [hops.out];kernel_rfl) ?_ ?_
   rotate_left 1
   ·rw [hops.out];simp only [getS];rfl
   ·rw [hops.out];kernel_rfl
   intro K hK
   go_simp
   refine HCX.out.mono ?_
   rintro e w2 ⟨hu,rfl,hou,bc⟩;obtain⟨ha,hc,rfl⟩:=Zac hou;have hbs:wr.heap.size<=w2.heap.size:=bc.size;have HOU:=hide hou;clear hou;refine hK.out _ _ ?_ (fun hHeld=>?_)
   ·obtain ⟨m0,m1,m2,m3,m4,m5,m6⟩:=hHeld
    exact⟨(bc.cell hz2).trans m0,(bc.cell hz2).trans m1,(bc.cell hz2).trans m2,(bc.cell hz2).trans m3,(bc.cell hz2).trans m4,(bc.cell hz2).trans m5,(bc.cell hz2).trans m6⟩
   clear hK K
   try simp only [putS]
   refine ZaP 7 ?_ ?_ ?_ (by rw [hops.out];kernel_rfl) ?_ ?_ (by assumption) ?_
   rotate_left 2
   ·rw [hops.out];simp only [getS];rfl
   ·intro W hW;(try dsimp only at hW);go_simp <;> with_reducible rfl
   ·exact fun _ _ _=>id
   try simp only [putS]
   refine Zak 8 (oi:=?_) ?_ (by rw [hops.out];kernel_rfl) ?_ ?_
   rotate_left 1
   ·rw [hops.out];simp only [getS];rfl
   ·rw [hops.out];kernel_rfl
   intro K hK
   go_simp
   refine hK.out _ _ ?_ (fun hHeld=>?_)
   ·obtain ⟨m0,m1,m2,m3,m4,m5,m6⟩:=hHeld
    exact⟨(((Below.refl w2.heap.size w2).alloc (Nat.le_refl _) _).cell (Nat.lt_of_lt_of_le hz2 bc.size)).trans m0,(((Below.refl w2.heap.size w2).alloc (Nat.le_refl _) _).cell (Nat.lt_of_lt_of_le hz2 bc.size)).trans m1,(((Below.refl w2.heap.size w2).alloc (Nat.le_refl _) _).cell (Nat.lt_of_lt_of_le hz2 bc.size)).trans m2,(((Below.refl w2.heap.size w2).alloc (Nat.le_refl _) _).cell (Nat.lt_of_lt_of_le hz2 bc.size)).trans m3,(((Below.refl w2.heap.size w2).alloc (Nat.le_refl _) _).cell (Nat.lt_of_lt_of_le hz2 bc.size)).trans m4,(((Below.refl w2.heap.size w2).alloc (Nat.le_refl _) _).cell (Nat.lt_of_lt_of_le hz2 bc.size)).trans m5,(((Below.refl w2.heap.size w2).alloc (Nat.le_refl _) _).cell (Nat.lt_of_lt_of_le hz2 bc.size)).trans m6⟩
   clear hK K
   try simp only [putS]
   refine Zak 9 (oi:=?_) ?_ (by rw [hops.out];kernel_rfl) ?_ ?_
   rotate_left 1
   ·rw [hops.out];simp only [getS];rfl
   ·rw [hops.out];kernel_rfl
   intro K hK;refine Zec Zav (by omega) (by omega) _ _ _ 29 rfl w1.heap.size 39 Tryz.underlying29 (.agg (recC Za6 (.slice none 0 0))) rfl Tryz.infoRec (.slice ua qs.length uc) qs (nodR x a,.slice ha (hinD x.net.ls x.id a (ZaJ x.heard)).length hc) (ZbS _ _ _ _) rfl ((Zae OW.out.row.drew bc (Nat.le_refl _)).alloc _) ⟨w2.heap.size,0,none⟩ 1 rfl (Zay (cs:=encP (nodR x a,.slice ha (hinD x.net.ls x.id a (ZaJ x.heard)).length hc))) (by have:=HQL.out;omega) (by simp;omega) ?_
   intro v' w' hown' hgrow;refine hK.out _ _ ?_ (fun hHeld=>?_)
   ·obtain ⟨m0,m1,m2,m3,m4,m5,m6⟩:=hHeld
    exact⟨hgrow.cell m0 NE0,hgrow.cell m1 NE0,hgrow.cell m2 NE0,hgrow.cell m3 NE0,hgrow.cell m4 NE0,hgrow.cell m5 NE0,hgrow.cell m6 NE0⟩
   clear hK K
   try simp only [putS]
   refine ZaP 10 ?_ ?_ ?_ (by rw [hops.out];kernel_rfl) ?_ ?_ (by assumption) ?_
   rotate_left 2
   ·rw [hops.out];simp only [getS];rfl
   ·intro W hW;(try dsimp only at hW);go_simp <;> with_reducible rfl
   ·exact fun _ _ _=>id
   try simp only [putS]
   refine wpAnyH_done (by rw [hops.out];kernel_rfl) ?_ _
   clear hops ops
   -- END
   have hgs:=hgrow.size;have hds:wr.drew.heap.size=wr.heap.size:=rfl;have BF:Below w1.heap.size w1 w':=((hnx.drew.trans (bc.mono (by omega))).alloc (by omega) _).grown hgrow (by simp;omega) (fun k hk=>(OW.out.row.lt k hk).1)
   have bb:Below wr.heap.size wr (w2.alloc (.cells (encP (nodR x a,.slice ha (hinD x.net.ls x.id a (ZaJ x.heard)).length hc)).toArray 39)):=((Below.refl _ _).drew.trans (bc.mono (by omega))).alloc (by omega) _
   have ow4:=OW.out.push (p:=(nodR x a,.slice ha (hinD x.net.ls x.id a (ZaJ x.heard)).length hc)) bb (by omega) ⟨Zaj (HOU.out.alloc _) (by omega),fun k hk=>by have:=(HOU.out.lt k hk).2;simp;omega⟩ (by simpa using hown') hgrow
   obtain⟨va,vc,rfl⟩:=Zac hown';have OW4:=hide ow4;clear hown' hgrow ow4 bb
   go_wp2
   go_roundw
   case rel=>exact ⟨k+1,qs++[(nodR x a,.slice ha (hinD x.net.ls x.id a (ZaJ x.heard)).length hc)],_,by omega,by go_num,rfl,hide (by rw [HST.out, <-HM.out];simp [fsts]),OW4,BF⟩
   case measure=>simp [intOf];omega
  ·have KN:=hide (show al.take k=al from List.take_of_length_le (by omega))
   go_wp2
   go_ret
   exact⟨_,qs,rfl,by rw [HM.out,KN.out],OW.out.wide (by omega) (Nat.le_refl _),B1.trans (hnx.mono B1.size)⟩
end Go.Proofs.YtadokhjefnkajaaGreat
namespace Go.Proofs.YtadokhjefnkajaaGreat

def cOf (bp:Nat->Option Nat)(wd:Nat->WayD)(v:Nat):Int:=match bp v with
 | some k=>(wd k).cost
 | none => -1

def hOf (bp:Nat->Option Nat)(wd:Nat->WayD)(v:Nat):List Int:=match bp v with
 | some k=>(wd k).hops
 | none=>[]

theorem Zcq {bp:Nat->Option Nat}{wd:Nat->WayD}{v k:Nat}(h:bp v=some k):cOf bp wd v=(wd k).cost:=by unfold cOf;rw [h]

theorem ZdU {bp:Nat->Option Nat}{wd:Nat->WayD}{v k:Nat}(h:bp v=some k):hOf bp wd v=(wd k).hops:=by unfold hOf;rw [h]

theorem ZfF {bp:Nat->Option Nat}{wd:Nat->WayD}{v:Nat}(h:bp v=none):cOf bp wd v = -1:=by unfold cOf;rw [h]

structure GI (F:Nat->Bool) (c:Nat->Int) (h:Nat->List Int) (n:Nat) (q:Nat->Nat) (bp:Nat->Option Nat) (wd:Nat->WayD):Prop where
 cc:∀ v,cOf bp wd v=c v
 hh:∀ v,hOf bp wd v=h v
 to:∀ v k,bp v=some k->(wd k).to=(v:Int)
 ent:∀ i,i<n->∃ v kb:Nat,(wd (q i)).to=(v:Int)/\bp v=some kb/\((q i=kb/\F v=false)\/(wd kb).cost<(wd (q i)).cost)
 live:∀ v k,bp v=some k->F v=false->∃ i,i<n/\q i=k
 inj:∀ i j,i<n->j<n->q i=q j->i=j
 nn:∀ v k,bp v=some k->0<=(wd k).cost

theorem GI.push {F:Nat->Bool}{c:Nat->Int}{h:Nat->List Int}{n:Nat}{q q':Nat->Nat}{bp:Nat->Option Nat}{wd:Nat->WayD}(g:GI F c h n q bp wd){t k:Nat}{x:WayD}(hF:F t=false)(hx:x.to=(t:Int))(hc:c t<0\/x.cost<c t)
  (hk1:∀ i,i<n->q i≠k) (hk2:∀ v,bp v≠some k) (hs:Shuf (fun y=>if y=n then k else q y) q' (n+1)) (hx0:0<=x.cost):GI F (upd c t x.cost) (upd h t x.hops) (n+1) q' (upd bp t (some k)) (upd wd k x):=by
 have wk:∀ i,i<n->upd wd k x (q i)=wd (q i):=fun i hi=>Zao _ _ (hk1 i hi)
 have wb:∀ v k',bp v=some k'->upd wd k x k'=wd k':=fun v k' e=>Zao _ _ (fun e2=>hk2 v (by rw [e,e2]))
 have hin:∀ i,i<n+1->q' i=k\/∃ j,j<n/\q' i=q j:=by
  intro i hi;obtain⟨j,hj,e⟩:=hs.into i hi;by_cases e2:j=n
  ·left;rw [e];exact if_pos e2
  ·right
   refine⟨j,by omega,?_⟩
   rw [e];exact if_neg e2
 refine⟨fun v=>?_,fun v=>?_,fun v k' e=>?_,fun i hi=>?_,fun v k' e hFv=>?_,?_,fun v k' e=>?_⟩
 ·by_cases e:v=t
  ·subst e
   rw [Zcq (k:=k) (Zax _ _ _),Zax,Zax]
  ·rw [Zao _ _ e, <-g.cc v]
   unfold cOf;rw [Zao _ _ e];cases e2:bp v with
   | none=>rfl
   | some k'=>show (upd wd k x k').cost=(wd k').cost;rw [wb v k' e2]
 ·by_cases e:v=t
  ·subst e
   rw [ZdU (k:=k) (Zax _ _ _),Zax,Zax]
  ·rw [Zao _ _ e, <-g.hh v]
   unfold hOf;rw [Zao _ _ e];cases e2:bp v with
   | none=>rfl
   | some k'=>show (upd wd k x k').hops=(wd k').hops;rw [wb v k' e2]
 ·by_cases e2:v=t
  ·subst e2
   rw [Zax] at e;cases e
   rw [Zax];exact hx
  ·rw [Zao _ _ e2] at e
   rw [wb v k' e];exact g.to v k' e
 ·rcases hin i hi with e | ⟨j,hj,e⟩
  ·refine ⟨t,k,?_,Zax _ _ _,.inl ⟨e,hF⟩⟩
   rw [e,Zax];exact hx
  ·obtain ⟨v,kb,h1,h2,h3⟩:=g.ent j hj
   rw [e,wk j hj];by_cases ev:v=t
   ·subst ev
    refine⟨v,k,h1,Zax _ _ _,.inr ?_⟩
    rw [Zax];have hcv:=g.cc v;rw [Zcq h2] at hcv;have h0:=g.nn v kb h2
    rcases h3 with ⟨h4,_⟩ | h4
    ·rw [h4];omega
    ·omega
   ·refine ⟨v,kb,h1,by rw [Zao _ _ ev];exact h2,?_⟩
    rw [wb v kb h2];exact h3
 ·by_cases e2:v=t
  ·subst e2
   rw [Zax] at e;cases e
   obtain⟨i,hi,e3⟩:=hs.onto n (by omega)
   exact⟨i,hi,by rw [e3];exact if_pos rfl⟩
  ·rw [Zao _ _ e2] at e
   obtain⟨j,hj,e3⟩:=g.live v k' e hFv;obtain⟨i,hi,e4⟩:=hs.onto j (by omega)
   refine⟨i,hi,?_⟩
   rw [e4, <-e3];exact if_neg (by omega)
 ·refine hs.inj (fun i j hi hj e=>?_)
  by_cases ei:i=n <;> by_cases ej:j=n
  ·omega
  ·have e2:k=q j:=by simpa [ei,ej] using e
   exact absurd e2.symm (hk1 j (by omega))
  ·have e2:q i=k:=by simpa [ei,ej] using e
   exact absurd e2 (hk1 i (by omega))
  ·have e2:q i=q j:=by simpa [ei,ej] using e
   exact g.inj i j (by omega) (by omega) e2
 ·by_cases e2:v=t
  ·subst e2
   rw [Zax] at e;cases e
   rw [Zax];exact hx0
  ·rw [Zao _ _ e2] at e
   rw [wb v k' e];exact g.nn v k' e

theorem GI.join {F:Nat->Bool}{c:Nat->Int}{h:Nat->List Int}{n:Nat}{q:Nat->Nat}{bp:Nat->Option Nat}{wd:Nat->WayD}(g:GI F c h n q bp wd){t k:Nat}{y:WayD}(hb:bp t=some k)(hc:y.cost=(wd k).cost)(ht:y.to=(wd k).to):GI F c (upd h t y.hops) n q bp (upd wd k y):=by
 have hcost:∀ k',(upd wd k y k').cost=(wd k').cost:=by
  intro k';by_cases e:k'=k
  ·rw [e,Zax];exact hc
  ·rw [Zao _ _ e]
 have hto:∀ k',(upd wd k y k').to=(wd k').to:=by
  intro k';by_cases e:k'=k
  ·rw [e,Zax];exact ht
  ·rw [Zao _ _ e]
 refine⟨fun v=>?_,fun v=>?_,fun v k' e=>?_,fun i hi=>?_,g.live,g.inj,fun v k' e=>by rw [hcost];exact g.nn v k' e⟩
 ·rw [<-g.cc v]
  unfold cOf;cases bp v with
  | none=>rfl
  | some k'=>exact hcost k'
 ·by_cases e:v=t
  ·subst e
   rw [ZdU hb,Zax,Zax]
  ·rw [Zao _ _ e, <-g.hh v]
   unfold hOf;cases e2:bp v with
   | none=>rfl
   | some k'=>
    show (upd wd k y k').hops=(wd k').hops
    rw [Zao];intro e3;subst e3;have h1:=g.to v k' e2;have h2:=g.to t k' hb;omega
 ·rw [hto];exact g.to v k' e
 ·obtain ⟨v,kb,h1,h2,h3⟩:=g.ent i hi
  refine⟨v,kb,by rw [hto];exact h1,h2,?_⟩
  rw [hcost,hcost];exact h3

theorem pop_in {q q':Nat->Nat}{n:Nat}(hs:Shuf (Zcb q 0 n) q' n){i:Nat}(hi:i<n):∃ j,0<j/\j<n+1/\q' i=q j:=by
 obtain⟨j,hj,e⟩:=hs.into i hi
 rcases ZbY q 0 n j with ⟨a,b⟩ | ⟨a,b⟩ | ⟨a,_,b⟩
 ·exact ⟨n,by omega,by omega,e.trans b⟩
 ·omega
 ·exact ⟨j,by omega,by omega,e.trans b⟩

theorem pop_on {q q':Nat->Nat}{n:Nat}(hs:Shuf (Zcb q 0 n) q' n){j:Nat}(h0:0<j)(hj:j<n+1):∃ i,i<n/\q' i=q j:=by
 by_cases e:j=n
 ·obtain ⟨i,hi,e2⟩:=hs.onto 0 (by omega)
  refine⟨i,hi,?_⟩
  rw [e2];unfold Zcb;rw [if_pos rfl,e]
 ·obtain ⟨i,hi,e2⟩:=hs.onto j (by omega)
  refine⟨i,hi,?_⟩
  rw [e2];unfold Zcb;rw [if_neg (by omega),if_neg e]

theorem ZpO {q q':Nat->Nat}{n:Nat}(hs:Shuf (Zcb q 0 n) q' n)(hi:∀ i j,i<n+1->j<n+1->q i=q j->i=j):∀ i j,i<n->j<n->q' i=q' j->i=j:=
 hs.inj (fun i j h1 h2 e=>(Shuf.swap q (n:=n+1) (i:=0) (j:=n) (by omega) (by omega)).inj hi i j (by omega) (by omega) e)

theorem GI.pop {F F':Nat->Bool}{c:Nat->Int}{h:Nat->List Int}{n:Nat}{q q':Nat->Nat}{bp:Nat->Option Nat}{wd:Nat->WayD}(g:GI F c h (n+1) q bp wd)(hs:Shuf (Zcb q 0 n) q' n)
  (hF1:∀ v,F' v=false->F v=false) (hF2:∀ v k,bp v=some k->F' v=false->k≠q 0) (hF3:∀ v,F v=false->F' v=true->bp v=some (q 0)):GI F' c h n q' bp wd:=by
 refine⟨g.cc,g.hh,g.to,fun i hi=>?_,fun v k e hFv=>?_,ZpO hs g.inj,g.nn⟩
 ·obtain ⟨j,h0,hj,e⟩:=pop_in hs hi
  obtain⟨v,kb,h1,h2,h3⟩:=g.ent j hj;rw [e];refine⟨v,kb,h1,h2,?_⟩
  rcases h3 with ⟨h4,h5⟩ | h4
  ·left
   refine⟨h4,?_⟩
   cases e2:F' v with
   | false=>rfl
   | true=>
    have h6:=hF3 v h5 e2;rw [h2] at h6;cases h6
    have:=g.inj j 0 hj (by omega) h4
    omega
  ·exact .inr h4
 ·obtain ⟨j,hj,e2⟩:=g.live v k e (hF1 v hFv)
  have h0:0<j:=by
   by_cases e3:j=0
   ·subst e3;exact absurd e2.symm (hF2 v k e hFv)
   ·omega
  obtain⟨i,hi,e4⟩:=pop_on hs h0 hj;exact⟨i,hi,e4.trans e2⟩
theorem Inv.hops_ne {L:Nat->Nat->Int}{src:Nat}{F:Nat->Bool}{c:Nat->Int}{h:Nat->List Int}(I:Inv L src F c h):∀ (m v:Nat),v≠src->0<=c v->(c v).toNat<=m->h v≠[]
 | m,v,hv,h0,hm=>by
  obtain⟨u,hu,hl,hc⟩:=I.pred v hv h0;have hu0:=(I.fnode u hu).2;by_cases e:u=src
  ·have:(v:Int)∈h v:=(I.hop v hv v).2 ⟨h0,u,hu,hl,hc,.inl ⟨e,rfl⟩⟩
   intro e2;rw [e2] at this;cases this
  ·match m,hm with
   | 0,hm=>omega
   | m+1,hm=>
    have ih:=I.hops_ne m u e hu0 (by omega)
    obtain⟨x,hx⟩:=List.exists_mem_of_ne_nil _ ih;have:x∈h v:=(I.hop v hv x).2 ⟨h0,u,hu,hl,hc,.inr ⟨e,hx⟩⟩;intro e2;rw [e2] at this;cases this

theorem ZfD {l a b:List Int}(hl:l.Pairwise (· < ·))(hm:∀ x,x∈l↔(x∈a\/x∈b))(hr:∀ x,x∈l->1<=x/\x<=6):l=addL a b:=by
 refine Zhu hl (ZfB a b) (fun x=>?_)
 rw [ZfC]
 constructor
 ·intro hx
  have:=hr x hx;exact⟨this.1,this.2,(hm x).1 hx⟩
 ·rintro ⟨_,_,h3⟩
  exact (hm x).2 h3

theorem Zdy {P:Nat->Prop}(h:∃ m,P m):∃ m,P m/\∀ k,P k->m<=k:=by
 obtain⟨m,hm⟩:=h
 induction m using Nat.strongRecOn with
 | ind m ih=>
  by_cases e:∃ k,k<m/\P k
  ·obtain ⟨k,hk,hP⟩:=e
   exact ih k hk hP
  ·exact ⟨m,hm,fun k hk=>by
    by_cases e2:k<m
    ·exact absurd ⟨k,e2,hk⟩ e
    ·omega⟩

open Classical in
noncomputable def Zg3 (P:Nat->Prop):Nat:=if h:∃ m,P m then Classical.choose (Zdy h) else 0

theorem ZjX {P:Nat->Prop}(h:∃ m,P m):P (Zg3 P):=by
 unfold Zg3;rw [dif_pos h];exact (Classical.choose_spec (Zdy h)).1

theorem Zf9 {P:Nat->Prop}{m:Nat}(h:P m):Zg3 P<=m:=by
 unfold Zg3;rw [dif_pos ⟨m,h⟩];exact (Classical.choose_spec (Zdy ⟨m,h⟩)).2 m h
end Go.Proofs.YtadokhjefnkajaaGreat
namespace Go.Proofs.YtadokhjefnkajaaGreat
open Go.RowKit
set_option linter.unusedSimpArgs false
set_option linter.unusedVariables false
set_option maxRecDepth 100000
set_option maxHeartbeats 8000000
def Zgi (area owner:Int)(x:RecD):Bool:=x.area==area&&x.kind==1&&x.owner==owner
def plN (xs:List RecD)(area owner:Int):Option Nat:=xs.findIdx? (Zgi area owner)
def plV2:Option Nat->Value
 | some k=>.tuple #[.int .i64 (k:Int),.bool true]
 | none=>.tuple #[.int .i64 0,.bool false]
theorem Znm {xs:List RecD}{area owner:Int}{x:RecD}{k:Nat}(hk:xs[k]? = some x)(hs:Zgi area owner x=true)(hall:∀ j,j<k->∀ y,xs[j]? = some y->Zgi area owner y=false):plN xs area owner=some k:=by
 obtain⟨h1,e1⟩:=List.getElem?_eq_some_iff.1 hk;unfold plN;rw [List.findIdx?_eq_some_iff_getElem];refine⟨h1,by rw [e1];exact hs,fun j hj=>?_⟩
 have:=hall j hj xs[j] (List.getElem?_eq_getElem (by omega))
 rw [this];simp
theorem ZoU {xs:List RecD}{area owner:Int}(hall:∀ j,j<xs.length->∀ y,xs[j]? = some y->Zgi area owner y=false):plN xs area owner=none:=by
 unfold plN;rw [List.findIdx?_eq_none_iff];intro x hx;obtain⟨j,hj,e⟩:=List.mem_iff_getElem.1 hx;exact hall j hj x (by rw [List.getElem?_eq_getElem hj,e])
theorem ZnZ {xs:List RecD}{k:Nat}{x:RecD}{f:RecD->Bool}(h:∀ j,j<k->∀ y,xs[j]? = some y->f y=false)(hk:xs[k]? = some x)(hx:f x=false):∀ j,j<k+1->∀ y,xs[j]? = some y->f y=false:=by
 intro j hj y hy;by_cases e:j=k
 ·subst e
  rw [hk] at hy;cases hy
  exact hx
 ·exact h j (by omega) y hy
theorem Zha (v:Value)(ps:List RP)(hi:Nat)(area owner:Int)(w:World)(hv:RecsIn w hi v ps)(hhi:hi<=w.heap.size)(hn:tot ps<=1048576):
  Calls Tryz.prog 238 #[v,.int .i64 area,.int .i64 owner] w fun e w'=>e=.returned (plV2 (plN (fsts ps) area owner))/\Below w.heap.size w w':=by
 have hnl:=Zbh ps;obtain⟨R,hR⟩:∃ R,R=plN (fsts ps) area owner:=⟨_,rfl⟩;rw [<-hR];have HR:=hide hR;clear hR;obtain⟨a1,c1,rfl⟩:=Zac hv.row;have HV:=hide hv;clear hv
 go_enter Tryz.func238,Tryz.ntmps238
 go_wp2
 go_loopw [11] (fun i wr=>∃ (k:Nat),k<=ps.length/\i=.int .i64 (k:Int)/\Hid (∀ j,j<k->∀ y,(fsts ps)[j]? = some y->Zgi area owner y=false)/\Below w.heap.size w wr) (fun i _=>ps.length-(intOf i).toNat)
 case atStart=>exact ⟨0,by omega,rfl,hide (by omega),Below.refl _ _⟩
 case round=>
  obtain⟨k,hk,rfl,HALL,hnx⟩:=hrel;by_cases hlt:k<ps.length
  ·obtain ⟨p,hp⟩:∃ p,ps[k]? = some p:=⟨ps[k],List.getElem?_eq_getElem hlt⟩
   have hat:=HV.out.at;obtain⟨b,off,cap',hve,hbb,c0,c1,c2,_⟩:=hat.cells k p hp;cases hve
   rw [<-hnx.cell (p:=⟨b,off+k*8,none⟩) (Nat.lt_of_lt_of_le hbb hhi)] at c0;rw [<-hnx.cell (p:=⟨b,off+k*8+1,none⟩) (Nat.lt_of_lt_of_le hbb hhi)] at c1;rw [<-hnx.cell (p:=⟨b,off+k*8+2,none⟩) (Nat.lt_of_lt_of_le hbb hhi)] at c2;have hki:(0:Int)<=(k:Int):=by omega
   have hkj:(k:Int)<(ps.length:Int):=by omega
   have HPP:=hide (Zbw hp);obtain⟨x0,hx0⟩:∃ x,x=p.1.area:=⟨_,rfl⟩;obtain⟨x1,hx1⟩:∃ x,x=p.1.kind:=⟨_,rfl⟩;obtain⟨x2,hx2⟩:∃ x,x=p.1.owner:=⟨_,rfl⟩;have HM:=hide (show Zgi area owner p.1=(x0==area&&x1==1&&x2==owner) by rw [hx0,hx1,hx2];rfl)
   rw [<-hx0] at c0;rw [<-hx1] at c1;rw [<-hx2] at c2;clear hp hat hx0 hx1 hx2;have NXT:=hide (fun (e:(x0==area&&x1==1&&x2==owner)=false)=>ZnZ HALL.out HPP.out (HM.out.trans e))
   by_cases h0:x0=area
   ·by_cases h1:x1=1
    ·by_cases h2:x2=owner
     ·have HF:=hide (show R=some k by rw [HR.out];exact Znm HPP.out (by rw [HM.out];simp [h0,h1,h2]) HALL.out)
      have hRR:=HF.out;subst hRR;subst h0 h1 h2;clear NXT HM
      go_wp2
      go_returns
      exact⟨rfl,hnx⟩
     ·have HN:=hide (NXT.out (by simp [h2]))
      have hb2:(x2==owner)=false:=by simpa using h2
      subst h0 h1;clear NXT HM
      go_wp2
      go_roundw
      case rel=>exact ⟨k+1,by omega,by go_num,HN,hnx⟩
      case measure=>simp [intOf];omega
    ·have HN:=hide (NXT.out (by simp [h1]))
     have hb1:(x1==1)=false:=by simpa using h1
     subst h0;clear NXT HM
     go_wp2
     go_roundw
     case rel=>exact ⟨k+1,by omega,by go_num,HN,hnx⟩
     case measure=>simp [intOf];omega
   ·have HN:=hide (NXT.out (by simp [h0]))
    have hb0:(x0==area)=false:=by simpa using h0
    clear NXT HM
    go_wp2
    go_roundw
    case rel=>exact ⟨k+1,by omega,by go_num,HN,hnx⟩
    case measure=>simp [intOf];omega
  ·have HF:=hide (show R=none by rw [HR.out];exact ZoU (fun j hj=>HALL.out j (by simp [fsts] at hj;omega)))
   have hRR:=HF.out;subst hRR
   go_wp2
   go_returns
   exact⟨rfl,hnx⟩
def Zib (xs:List RecD)(area owner to:Int):Option Int:=match plN xs area owner with
 | some k=>match xs[k]? with
  | some x=>(x.near.find? (fun n=>n.to==to)).map (·.c)
  | none=>none
 | none=>none
def ZnS:Option Int->Value
 | some c=>.tuple #[.int .i64 c,.bool true]
 | none=>.tuple #[.int .i64 0,.bool false]
theorem Zpp {xs:List RecD}{area owner:Int}{k:Nat}(h:plN xs area owner=some k):∃ x,xs[k]? = some x/\Zgi area owner x=true/\∀ j,j<k->∀ y,xs[j]? = some y->Zgi area owner y=false:=by
 unfold plN at h;obtain⟨h1,h2,h3⟩:=List.findIdx?_eq_some_iff_getElem.1 h;refine⟨xs[k],List.getElem?_eq_getElem h1,h2,fun j hj y hy=>?_⟩
 have h4:=h3 j hj;rw [List.getElem?_eq_getElem (by omega)] at hy
 cases hy
 simpa using h4
theorem Zof {ns:List Nr}{k:Nat}{n:Nr}{b:Int}(h:ns[k]? = some n)(hno:∀ q∈ns.take k,q.to≠b)(hb:n.to=b):ns.find? (fun x=>x.to==b)=some n:=by
 obtain⟨hk,e1⟩:=List.getElem?_eq_some_iff.1 h;rw [List.find?_eq_some_iff_append];refine⟨by simpa using hb,ns.take k,ns.drop (k+1),?_,?_⟩
 ·rw [<-e1, <-List.drop_eq_getElem_cons hk,List.take_append_drop]
 ·intro x hx
  simpa using hno x hx
theorem Zlb (v:Value)(ps:List RP)(hi:Nat)(area owner to:Int)(w:World)(hv:RecsIn w hi v ps)(hhi:hi<=w.heap.size)(hn:tot ps<=1048576):
  Calls Tryz.prog 280 #[v,.int .i64 area,.int .i64 owner,.int .i64 to] w fun e w'=>e=.returned (ZnS (Zib (fsts ps) area owner to))/\Below w.heap.size w w':=by
 have hnl:=Zbh ps;obtain⟨R,hR⟩:∃ R,R=Zib (fsts ps) area owner to:=⟨_,rfl⟩;rw [<-hR];have HP:=hide (Zha v ps hi area owner w hv hhi hn);obtain⟨a1,c1,rfl⟩:=Zac hv.row;unfold Zib at hR;cases hpl:plN (fsts ps) area owner with
 | none=>
  rw [hpl] at HP hR;have hRR:R=none:=hR;subst hRR;unfold plV2 at HP;unfold ZnS;clear hR hv
  go_enter Tryz.func280,Tryz.ntmps280
  go_wp2_with fail
  refine HP.out.mono ?_
  rintro e w1 ⟨rfl,b1⟩
  go_wp2
  go_returns
  exact⟨rfl,b1⟩
 | some k=>
  rw [hpl] at HP hR;obtain⟨x,hx,_,_⟩:=Zpp hpl;simp only [hx] at hR
  obtain⟨p,hp,rfl⟩:=Zg0 hx;have hR2:R=(p.1.near.find? (fun n=>n.to==to)).map (·.c):=hR
  have HR:=hide hR2;clear hR hR2;unfold plV2 at HP;have hlt:k<ps.length:=(List.getElem?_eq_some_iff.1 hp).1;obtain⟨b,off,cap',hve,hbb,_,_,_,_,_,c5,_,_,hnr⟩:=hv.at.cells k p hp;cases hve
  obtain⟨pa,pc,hpn⟩:=ZaC.shape hnr;rw [hpn] at c5 hnr;have hnl2:p.1.near.length<=1048576:=by have:=ZdN (List.mem_of_getElem? hp);omega
  have HNR:=hide hnr;have hki:(0:Int)<=(k:Int):=by omega
  have hkj:(k:Int)<(ps.length:Int):=by omega
  obtain⟨ns,hns⟩:∃ ns,ns=p.1.near:=⟨_,rfl⟩;rw [<-hns] at HR c5 HNR hnl2;clear hx hp hv hnr hpn hns hpl
  go_enter Tryz.func280,Tryz.ntmps280
  go_wp2_with fail
  refine HP.out.mono ?_
  rintro e w1 ⟨rfl,b1⟩;rw [<-b1.cell (p:=⟨b,off+k*8+5,none⟩) (Nat.lt_of_lt_of_le hbb hhi)] at c5;have N1:=hide (ZaE.later HNR.out b1 hhi)
  go_wp2
  go_loopw [29] (fun i wr=>∃ (j:Nat),j<=ns.length/\i=.int .i64 (j:Int)/\Hid (∀ q∈ns.take j,q.to≠to)/\Below w1.heap.size w1 wr) (fun i _=>ns.length-(intOf i).toNat)
  case atStart=>exact ⟨0,by omega,rfl,hide (by simp),Below.refl _ _⟩
  case round=>
   obtain⟨j,hj,rfl,HNO,hnx⟩:=hrel;have hs1:=b1.size;have B:Below w.heap.size w wr:=b1.trans (hnx.mono hs1);have hsB:=B.size;have hsx:=hnx.size;by_cases hjl:j<ns.length
   ·obtain ⟨n,hnj⟩:∃ n,ns[j]? = some n:=⟨ns[j],List.getElem?_eq_getElem hjl⟩
    obtain⟨b2,off2,cp,hve,hbb2,d0,d1⟩:=ZaC.cells (ZaE.later N1.out hnx (by omega)) j n hnj
    cases hve
    have hji:(0:Int)<=(j:Int):=by omega
    have hjj:(j:Int)<(ns.length:Int):=by omega
    by_cases hto:n.to=to
    ·have HF:=hide (show R=some n.c by rw [HR.out,Zof hnj HNO.out hto];rfl)
     have hRR:=HF.out;subst hRR;subst hto;clear hnj
     go_wp2
     go_returns
     exact⟨rfl,B.alloc (by omega) _⟩
    ·have HN:=hide (Zje hnj HNO.out hto)
     have hb0:(n.to==to)=false:=by simpa using hto
     clear hnj
     go_wp2
     go_roundw
     case rel=>exact ⟨j+1,by omega,by go_num,HN,hnx.alloc (by omega) _⟩
     case measure=>simp [intOf];omega
   ·have HF:=hide (show R=none by
     rw [HR.out];have h:=HNO.out;rw [List.take_of_length_le (by omega)] at h
     rw [List.find?_eq_none.2 (fun x hx=>by simpa using h x hx)]
     rfl)
    have hRR:=HF.out;subst hRR
    go_wp2
    go_returns
    exact⟨rfl,B⟩
def Zgb (xs:List RecD)(area a b:Int):Int:=match Zib xs area b a with
 | some _=>match Zib xs area a b with
  | some c=>c
  | none=>0
 | none=>0
theorem ZjR (v:Value)(ps:List RP)(hi:Nat)(area a b:Int)(w:World)(hv:RecsIn w hi v ps)(hhi:hi<=w.heap.size)(hn:tot ps<=1048576):
  Calls Tryz.prog 265 #[v,.int .i64 area,.int .i64 a,.int .i64 b] w fun e w'=>e=.returned (.int .i64 (Zgb (fsts ps) area a b))/\Below w.heap.size w w':=by
 have H1:=hide (Zlb v ps hi area b a w hv hhi hn);have H2:=hide (fun W (hb:Below w.heap.size w W)=>Zlb v ps hi area a b W (hv.below hb hhi) (Nat.le_trans hhi hb.size) hn)
 clear hv;unfold Zgb;cases e1:Zib (fsts ps) area b a with
 | none=>
  rw [e1] at H1;unfold ZnS at H1
  go_enter Tryz.func265,Tryz.ntmps265
  go_wp2_with fail
  refine H1.out.mono ?_
  rintro e w1 ⟨rfl,b1⟩
  go_wp2
  go_ret
  exact⟨rfl,b1⟩
 | some c=>
  rw [e1] at H1;cases e2:Zib (fsts ps) area a b with
  | none=>
   rw [e2] at H2;unfold ZnS at H1 H2
   go_enter Tryz.func265,Tryz.ntmps265
   go_wp2_with fail
   refine H1.out.mono ?_
   rintro e w1 ⟨rfl,b1⟩
   go_wp2_with fail
   refine (H2.out _ b1).mono ?_
   rintro e w2 ⟨rfl,b2⟩;have B2:Below w.heap.size w w2:=b1.trans (b2.mono b1.size)
   go_wp2
   go_ret
   exact⟨rfl,B2⟩
  | some c2=>
   rw [e2] at H2;unfold ZnS at H1 H2
   go_enter Tryz.func265,Tryz.ntmps265
   go_wp2_with fail
   refine H1.out.mono ?_
   rintro e w1 ⟨rfl,b1⟩
   go_wp2_with fail
   refine (H2.out _ b1).mono ?_
   rintro e w2 ⟨rfl,b2⟩;have B2:Below w.heap.size w w2:=b1.trans (b2.mono b1.size)
   go_wp2
   go_ret
   exact⟨rfl,B2⟩
end Go.Proofs.YtadokhjefnkajaaGreat
