/-
  HeardM SelfL InsWB InsC
-/
import Derived.Test.YtadokhjefnkajaaGreatIe15
import Derived.Test.YtadokhjefnkajaaGreatIe19
import Derived.Test.YtadokhjefnkajaaGreatIe6
import Derived.Test.YtadokhjefnkajaaGreatIe20
import Derived.Test.YtadokhjefnkajaaGreatIe17
import Derived.Maps.AppendAt
import Derived.Test.YtadokhjefnkajaaGreatIe18
namespace Go.Proofs.YtadokhjefnkajaaGreat
open Go.RowKit
set_option linter.unusedSimpArgs false
set_option linter.unusedVariables false
set_option maxRecDepth 100000
set_option maxHeartbeats 8000000
def ZaJ:List Int->List (Int × Int)
 | a::b::l=>(a,b)::ZaJ l
 | _=>[]
theorem ZeZ:∀ l:List Int,(ZaJ l).length=l.length / 2
 | []=>rfl
 | [_]=>by simp [ZaJ]
 | a::b::l=>by
  simp only [ZaJ,List.length_cons,ZeZ l]
  omega
theorem Zk2:∀ (l:List Int)(i:Nat)(a b:Int),l[2*i]? = some a->l[2*i+1]? = some b->(ZaJ l)[i]? = some (a,b)
 | [],_,_,_,h,_=>by simp at h
 | [_],0,_,_,_,h=>by simp at h
 | [_],i+1,_,_,h,_=>by simp at h
 | x::y::l,0,a,b,h1,h2=>by
  simp at h1 h2
  simp [ZaJ,h1,h2]
 | x::y::l,i+1,a,b,h1,h2=>by
  have e1:2*(i+1)=2*i+1+1:=by omega
  rw [e1] at h1 h2;simp only [List.getElem?_cons_succ] at h1 h2
  simp only [ZaJ,List.getElem?_cons_succ]
  exact Zk2 l i a b h1 h2
theorem ZlT (l:List Int)(i:Nat)(a b:Int)(h1:l[2*i]? = some a)(h2:l[2*i+1]? = some b):(ZaJ l).take (i+1)=(ZaJ l).take i++[(a,b)]:=by
 have h:=Zk2 l i a b h1 h2;obtain⟨hi,e⟩:=List.getElem?_eq_some_iff.1 h;rw [List.take_succ_eq_append_getElem hi,e]
theorem Zmx {ls:List Lk}{f t r:Int}(h:Zcw ls f t r≠0):∃ l∈ls,Zbx f t r l=true:=by
 unfold Zcw at h;cases e:ls.find? (Zbx f t r) with
 | none=>rw [e] at h;simp at h
 | some l=>exact ⟨l,List.mem_of_find?_eq_some e,List.find?_some e⟩
theorem SelfIn.net {W:World}{v1 v2 v3 v4:Value}{x:SelfD}{ps:List RP}{B:Nat}(h:SelfIn W v1 v2 v3 v4 x ps B):Zfy W (.agg #[.int .i64 x.net.n,v1,v2]) x.net B:=⟨v1,v2,rfl,h.links,h.things⟩
theorem Zlz (base g cap n m i vb:Nat)(ps:List WP)(r:WP)(w:World)(hnp:n=ps.length)(hm:m=1)(hrow:w.ownsRow base 194 3 (.slice (some ⟨g,0,none⟩) n cap) n (flat encW ps))(hi:i<n)(hroom:n+m<=cap)
  (hvb:w.heap[vb]? = some (.cells (encW r).toArray 194 (0,0))) (hne:vb≠g) (hone:∀ p∈ps,∃ a k c,p.2=.slice a k c) (hr1:∀ u∈encW r,u.oneCell'=true):
  Calls Tryz.prog 247 #[.slice (some ⟨g,0,none⟩) n cap,.int .i64 (i:Int),.slice (some ⟨vb,0,none⟩) m 1] w fun e w'=>∃ v,e=.returned v/\w'.ownsRow base 194 3 v (n+m) (flat encW (ps.take i++[r]++ps.drop i))/\w.grownBy w' (some g)/\(v.ownBlock=some g\/v.ownBlock=some w.heap.size):=by
 have hnl:(flat encW ps).length=n*3:=hrow.1;have hui:=Tryz.underlying188;have hus:=Tryz.underlying188;obtain⟨i0,hi0,hz0,hzs,hzb⟩:=info_parts Tryz.infoWay;have hsz:(Tryz.prog.info? 194).map (·.size)=some 3:=by rw [hi0];simp [hzs]
 rcases hrow.2 with ⟨h0,_⟩ | ⟨g',cap',cur,hv,hbg,hg,hnc,hcm,hcs,htk⟩
 ·simp at h0
 simp at hv
 obtain⟨rfl,rfl⟩:=hv;have hmx:maxLen=9223372036854775807\/maxLen<=9223372036854775807:=by unfold maxLen;omega
 have hc63:cap<=9223372036854775807:=by omega
 have hD:(flat encW (ps.drop i)).length=(n-i)*3:=by rw [ZaF Zbg,List.length_drop, <-hnp]
 have hclen:cur.toList.length=cap*3:=by simpa using hcs
 have hRl:(encW r).length=3:=Zbg r;have hov:∀ lb cb,(callFunc 269 #[.slice (some ⟨vb,0,none⟩) m 1,.slice (some ⟨g,(i+m)*3,none⟩) lb cb]).run Tryz.prog w=.ok (.value (.bool false)) w:=fun lb cb=>by
  rw [run_callFunc_extern Tryz.func269 (by kernel_rfl) (by kernel_rfl) (by kernel_rfl) (e:=Extern.SlicesOverlaps.overlaps #[188,188] #[4]) (by kernel_rfl),
   Lib.run_overlaps_apart w 188 4 194 hus 3 (by intro w;simp [Go.sizeOf,typeInfo,hi0,hzs]) ⟨vb,0,none⟩ ⟨g,(i+m)*3,none⟩ m 1 lb cb hne 194 194 3 cur.size (by simp [World.shape?,hvb,hRl]) (by simp [World.shape?,hg]) (by omega) (Zaf hvb 0) (Zaf hvb 3)]
  rfl
 have hcell:∀ (W:World),W.heap=w.heap->∀ j u,(flat encW (ps.drop i))[j]? = some u->W.cell? ((⟨g,i*3,none⟩:Addr).add j)=some u:=fun W hW j u hj=>by
  rw [add8];simp only [World.cell?,hW,hg]
  rw [<-ZgY ps i (by omega), <-htk,List.getElem?_drop] at hj
  have h2:i*3+j<n*3:=by
   have h3:=(List.getElem?_eq_some_iff.1 hj).1;rw [List.length_take] at h3;omega
  rw [List.getElem?_take_of_lt h2] at hj
  simpa using hj
 have hcp1:∀ (W:World),W.heap=w.heap->∀ ty dc sc,(Builtin.copy_ #[188,188] ty #[.slice (some ⟨g,(i+m)*3,none⟩) (n+m-(i+m)) dc,.slice (some ⟨g,i*3,none⟩) (n+m-i) sc]).run Tryz.prog W=.ok (goInt (Nat.min (n+m-i) (n+m-(i+m)))) (W.setRow g (cur.toList.take ((i+m)*3)++flat encW (ps.drop i)++cur.toList.drop ((i+m)*3+(flat encW (ps.drop i)).length)).toArray):=fun W hW ty dc sc=>
  ZaU W 188 188 ty 194 g ((i+m)*3) (n+m-(i+m)) dc ⟨g,i*3,none⟩ (n+m-i) sc 3 cur 194 (flat encW (ps.drop i)) hui hsz (by rw [hW];exact hg)
   (by rw [hD];congr 1;have:Nat.min (n+m-i) (n+m-(i+m))=n+m-(i+m):=Nat.min_eq_right (by omega);omega) (hcell W hW) (by rw [hD];omega) (ZeK _ (fun p hp=>hone p (List.mem_of_mem_drop hp)))
 obtain⟨c1,hc1⟩:∃ c1,c1=cur.toList.take ((i+m)*3)++flat encW (ps.drop i)++cur.toList.drop ((i+m)*3+(flat encW (ps.drop i)).length):=⟨_,rfl⟩;rw [<-hc1] at hcp1;have hc1l:c1.length=cap*3:=by rw [hc1];simp only [List.length_append,List.length_take,List.length_drop,hclen,hD];omega
 have hcp2:∀ (W:World),W.heap=(w.setRow g c1.toArray).heap->∀ ty dc,(Builtin.copy_ #[188,188] ty #[.slice (some ⟨g,i*3,none⟩) (n+m-i) dc,.slice (some ⟨vb,0,none⟩) m 1]).run Tryz.prog W=.ok (goInt (Nat.min m (n+m-i))) (W.setRow g (c1.take (i*3)++encW r++c1.drop (i*3+(encW r).length)).toArray):=fun W hW ty dc=>by
  have h:=ZaU (P:=Tryz.prog) W 188 188 ty 194 g (i*3) (n+m-i) dc ⟨vb,0,none⟩ m 1 3 c1.toArray 194 (encW r) hui hsz (by rw [hW];exact setRow_heap w g cur _ 194 _ hg)
   (by rw [hRl];have:Nat.min m (n+m-i)=m:=Nat.min_eq_left (by omega);omega) (fun j u hj=>by
    rw [add8];simp only [World.cell?,hW]
    rw [setRow_other w g vb _ hne,hvb]
    simpa using hj) (by rw [hRl];simp only [List.size_toArray,hc1l];omega) hr1
  simpa using h
 have hfin:c1.take (i*3)++encW r++c1.drop (i*3+(encW r).length)=flat encW (ps.take i)++encW r++flat encW (ps.drop i)++cur.toList.drop (i*3+3+(n-i)*3):=by
  have h:=Zo3 cur.toList (flat encW (ps.drop i)) (encW r) (i*3) ((n-i)*3) hD hRl (by omega)
  rw [show i*3+3=(i+m)*3 by omega, <-hc1] at h
  rw [h]
  congr 3
  ·rw [<-ZgZ ps i (by omega), <-htk,List.take_take,Nat.min_eq_left (by omega)]
  ·omega
 have hdone:∀ W:World,W.heap=((w.setRow g c1.toArray).setRow g (c1.take (i*3)++encW r++c1.drop (i*3+(encW r).length)).toArray).heap->W.os=w.os->W.tape=w.tape->W.output=w.output->W.ownsRow base 194 3 (.slice (some ⟨g,0,none⟩) (n+m) cap) (n+m) (flat encW (ps.take i++[r]++ps.drop i))/\w.grownBy W (some g)/\((Value.slice (some ⟨g,0,none⟩) (n+m) cap).ownBlock=some g\/(Value.slice (some ⟨g,0,none⟩) (n+m) cap).ownBlock=some w.heap.size):=by
  intro W hW h1 h2 h3;have hAl:(flat encW (ps.take i)).length=i*3:=by rw [ZaF Zbg,List.length_take,Nat.min_eq_left (by omega)]
  refine⟨⟨?_,.inr ⟨g,cap,(flat encW (ps.take i)++encW r++flat encW (ps.drop i)++cur.toList.drop (i*3+3+(n-i)*3)).toArray,rfl,hbg,?_,hroom,hcm,?_,?_⟩⟩,⟨h1,h2,h3,?_,?_⟩,.inl rfl⟩
  ·rw [ZaF Zbg,ZhS ps r i (by omega)];omega
  ·rw [hW,hfin]
   exact setRow_heap _ g c1.toArray _ 194 _ (setRow_heap w g cur _ 194 _ hg)
  ·simp only [List.size_toArray,List.length_append,List.length_drop,hclen,hD,hRl,hAl];omega
  ·rw [Zf3]
   exact ZbT (by rw [hAl,hRl,hD];omega)
  ·rw [hW];simp
  ·intro k _ hk
   have hkg:k≠g:=fun e=>hk (by rw [e])
   rw [hW,setRow_other _ g k _ hkg,setRow_other _ g k _ hkg]
 have hz1:¬((m:Int)=0):=by omega
 have hz2:¬((i:Int)=(n:Int)):=by omega
 have hw1:IntKind.i64.wrap ((i:Int)+(m:Int))=(i:Int)+(m:Int):=by rw [IntKind.wrap_i64];omega
 have hw2:IntKind.i64.wrap ((n:Int)+(m:Int))=(n:Int)+(m:Int):=by rw [IntKind.wrap_i64];omega
 have hb1:(0:Int)<=(i:Int)+(m:Int):=by omega
 have hin:i<=n:=by omega
 have htn:((i:Int)+(m:Int)).toNat=i+m:=by omega
 have htn2:((n:Int)+(m:Int)).toNat=n+m:=by omega
 have hb2:¬(cap=i+m):=by omega
 have hb3:(i:Int)<=(n:Int)+(m:Int):=by omega
 have hb4:¬(cap=i):=by omega
 have hb5:¬((cap:Int)<(n:Int)+(m:Int)):=by omega
 have HD:=hide hdone;have HC1:=hide (hcp1 w.drew rfl);have mixed:Tryz.prog.follows .mixedOrders=true:=by kernel_rfl
 have HC2:=hide (hcp2 (w.drew.setRow g c1.toArray) rfl);have HOV:=hide hov;clear hdone hcp1 hcp2 hfin hc1 hcell hD hclen hRl hnl hov hc1l htk hcs hg hrow hvb hone hr1 hmx hsz hi0 hz0 hzs hzb hm hnp
 go_enter Tryz.func247,Tryz.ntmps247
 go_wp2_with (simp only [HOV.out])
 go_region_law_o (refine step_copy_runI rfl _ _ 188 188 rfl (.slice (some ⟨g,(i+m)*3,none⟩) (n+m-(i+m)) (cap-(i+m))) (.slice (some ⟨g,i*3,none⟩) (n+m-i) (cap-i)) (by simp [Act.eval,Act.put]) (by simp [Act.eval,Act.put]) (HC1.out 3 (cap-(i+m)) (cap-i)) ?_)
 go_wp2_with (refine wpList_copy_runI _ rfl _ _ 188 188 rfl (.slice (some ⟨g,i*3,none⟩) (n+m-i) (cap-i)) (.slice (some ⟨vb,0,none⟩) m 1) rfl rfl (HC2.out 3 (cap-i)) ?_)
 go_ret
 exact⟨_,rfl,HD.out _ (by rw [<-List.append_assoc];rfl) rfl rfl rfl⟩
theorem Zgt (base n m vb:Nat)(v:Value)(ps:List WP)(r:WP)(w:World)(hnp:n=ps.length)(hm:m=1)(hbase:base<=w.heap.size)(hn:n<=1048576)(hrow:w.ownsRow base 194 3 v n (flat encW ps))
  (hvb:w.heap[vb]? = some (.cells (encW r).toArray 194 (0,0))) (hr1:∀ u∈encW r,u.oneCell'=true):∃ v' w',(∀ ty,(Builtin.append_ #[188,188] ty #[v,.slice (some ⟨vb,0,none⟩) m 1]).run Tryz.prog w=.ok v' w')/\w'.ownsRow base 194 3 v' (n+m) (flat encW (ps.take n++[r]++ps.drop n))/\w.grownBy w' v.ownBlock/\(v'.ownBlock=v.ownBlock\/v'.ownBlock=some w.heap.size):=by
 obtain⟨i0,hi0,hz0,hzs,hzb⟩:=info_parts Tryz.infoWay;obtain⟨a,c,hv⟩:=Zac hrow;obtain⟨v',w',h1,h2,h3,_,h4⟩:=run_append_own_at (P:=Tryz.prog) w base 188 188 194 i0 _ 3 i0.bytes Tryz.underlying188 hi0 hz0 hzs rfl rfl (by omega) v n (flat encW ps) hrow ⟨vb,0,none⟩ m 1 (encW r) (by rw [Zbg,hm]) (fun j u hj=>by
  rw [add8,Nat.zero_add,Zaa hvb]
  simpa using hj) hr1 (by unfold maxLen;omega) (by rw [hzb];omega) hbase
 refine⟨v',w',fun ty=>?_,?_,h3,h4⟩
 ·rw [hv,Zds w 188 188 ty 194 i0 Tryz.underlying188 Tryz.underlying188 hi0, <-hv]
  exact h1
 ·rw [Zf3,hnp,List.take_length,List.drop_length]
  rw [hnp] at h2
  simpa [flat] using h2
theorem Zos (base n m vb:Nat)(v:Value)(ps:List WP)(r:WP)(w:World)(hnp:n=ps.length)(hm:m=1)(hbase:base<=w.heap.size)(hn:n<=1048576)(hrow:w.ownsRow base 194 3 v n (flat encW ps))
  (hvb:w.heap[vb]? = some (.cells (encW r).toArray 194 (0,0))) (hr1:∀ u∈encW r,u.oneCell'=true):
  Calls Tryz.prog 247 #[v,.int .i64 (n:Int),.slice (some ⟨vb,0,none⟩) m 1] w fun e w'=>∃ v',e=.returned v'/\w'.ownsRow base 194 3 v' (n+m) (flat encW (ps.take n++[r]++ps.drop n))/\w.grownBy w' v.ownBlock/\(v'.ownBlock=v.ownBlock\/v'.ownBlock=some w.heap.size):=by
 obtain⟨v',w',h1,h2,h3,h4⟩:=Zgt base n m vb v ps r w hnp hm hbase hn hrow hvb hr1;obtain⟨va,vc,hve⟩:=Zac h2;subst hve;have HR:=hide h1;generalize ps.take n++[r]++ps.drop n=l at *;have H2:=hide h2;have H3:=hide h3;have H4:=hide h4;have hz1:¬((m:Int)=0):=by omega
 clear h1 h2 h3 h4 hvb hr1 hm hnp
 rcases hrow.2 with ⟨h0,hn0⟩ | ⟨g,cap,cur,hv,hbg,hg,hnc,hcm,hcs,htk⟩
 ·subst h0
  clear hrow;subst hn0
  go_enter Tryz.func247,Tryz.ntmps247
  go_wp2_with (at_builtin;refine Lib.wpList_append_run _ rfl _ _ _ _ rfl _ _ rfl rfl _ _ (HR.out _) ?_)
  go_ret
  exact⟨_,rfl,(by simpa using H2.out),H3.out,(by simpa [Value.ownBlock] using H4.out)⟩
 ·subst hv
  have hc63:cap<=9223372036854775807:=by unfold maxLen at hcm;omega
  clear hrow hg hcs htk
  go_enter Tryz.func247,Tryz.ntmps247
  go_wp2_with (at_builtin;refine Lib.wpList_append_run _ rfl _ _ _ _ rfl _ _ rfl rfl _ _ (HR.out _) ?_)
  all_goals (go_ret;exact⟨_,rfl,H2.out,H3.out,H4.out⟩)
theorem ZmV (base g cap n m i vb:Nat)(ps:List WP)(r:WP)(w:World)(hnp:n=ps.length)(hm:m=1)(hbase:base<=w.heap.size)(hn:n<=1048576)(hrow:w.ownsRow base 194 3 (.slice (some ⟨g,0,none⟩) n cap) n (flat encW ps))(hi:i<n)(hroom:cap<n+m)
  (hvb:w.heap[vb]? = some (.cells (encW r).toArray 194 (0,0))) (hone:∀ p∈ps,∃ a k c,p.2=.slice a k c) (hr1:∀ u∈encW r,u.oneCell'=true):
  Calls Tryz.prog 247 #[.slice (some ⟨g,0,none⟩) n cap,.int .i64 (i:Int),.slice (some ⟨vb,0,none⟩) m 1] w fun e w'=>∃ v,e=.returned v/\w'.ownsRow base 194 3 v (n+m) (flat encW (ps.take i++[r]++ps.drop i))/\w.grownBy w' (some g)/\(v.ownBlock=some g\/v.ownBlock=some w.heap.size):=by
 have hnl:(flat encW ps).length=n*3:=hrow.1;have hui:=Tryz.underlying188;have hus:=Tryz.underlying188;obtain⟨i0,hi0,hz0,hzs,hzb⟩:=info_parts Tryz.infoWay;have hsz:(Tryz.prog.info? 194).map (·.size)=some 3:=by rw [hi0];simp [hzs]
 rcases hrow.2 with ⟨h0,_⟩ | ⟨g',cap',cur,hv,hbg,hg,hnc,hcm,hcs,htk⟩
 ·simp at h0
 simp at hv
 obtain⟨rfl,rfl⟩:=hv;have hc63:cap<=9223372036854775807:=by unfold maxLen at hcm;omega
 have hgw:=Zab hg;have hvw:=Zab hvb;have hD:(flat encW (ps.drop i)).length=(n-i)*3:=by rw [ZaF Zbg,List.length_drop, <-hnp]
 have hAl:(flat encW (ps.take i)).length=i*3:=by rw [ZaF Zbg,List.length_take,Nat.min_eq_left (by omega)]
 have hRl:(encW r).length=3:=Zbg r;have hkk:(n:Int)+(m:Int)-(i:Int)=((n+m-i:Nat):Int):=by omega
 have hik:i+(n+m-i)=n+m:=by omega
 have hcellw:∀ (j:Nat) (u:Value),(flat encW ps)[j]? = some u->w.cell? ⟨g,j,none⟩=some u:=fun j u hj=>by
  have h2:j<n*3:=by rw [<-hnl];exact (List.getElem?_eq_some_iff.1 hj).1
  rw [<-htk,List.getElem?_take_of_lt h2] at hj;rw [Zaa hg]
  simpa using hj
 have hold:(Builtin.firstCells i0.size i (.slice (some ⟨g,0,none⟩) i cap)).run Tryz.prog w.drew=.ok (flat encW (ps.take i)).toArray w.drew:=by
  rw [hzs];exact run_firstCells_some w.drew 3 i ⟨g,0,none⟩ i cap (flat encW (ps.take i)) hAl (fun j v hj=>by
   rw [add8,Nat.zero_add];refine hcellw j v ?_
   rw [<-ZgZ ps i (by omega),List.getElem?_take] at hj
   split at hj
   ·exact hj
   ·cases hj)
 have hrz0:=Lib.run_append_grow_zeros (P:=Tryz.prog) w 188 3 188 194 i0 _ .i64 .i64 hui Tryz.underlying3 hi0 hz0 (some ⟨g,0,none⟩) i cap (flat encW (ps.take i)) hold (n+m-i) (by omega) (by rw [hzs];omega) (by omega) (by omega) (by rw [hzb];omega) (by rw [hzb,hik];exact growslice_fits hroom (by omega))
 rw [hik] at hrz0;have hGn:=grownCap_ge w (n+m) cap 194;have hGm:=grownCap_le_maxLen w (n+m) cap 194 (by unfold maxLen;omega)
 obtain⟨G,hG⟩:∃ G,G=grownCap w (n+m) cap 194:=⟨_,rfl⟩;rw [<-hG] at hrz0 hGn hGm;obtain⟨ROW,hROW⟩:∃ ROW:Array Value,ROW=(flat encW (ps.take i)).toArray++Builtin.zeroCells (Value.agg (wayC Zbt (.slice none 0 0))).cells (n+m-i)++Builtin.zeroCells (Value.agg (wayC Zbt (.slice none 0 0))).cells (G-(n+m)):=⟨_,rfl⟩;rw [<-hROW] at hrz0;have hRs:ROW.size=G*3:=by
  rw [hROW];simp only [Array.size_append,List.size_toArray,size_zeroCells,hAl,show (Value.agg (wayC Zbt (.slice none 0 0))).cells.size=3 from rfl]
  omega
 have hRt:ROW.toList.take (i*3)=flat encW (ps.take i):=by
  rw [hROW];simp only [Array.toList_append,List.append_assoc]
  rw [<-hAl];exact List.take_left
 obtain⟨N,hN⟩:∃ N,N=w.heap.size:=⟨_,rfl⟩;obtain⟨W1,hW1⟩:∃ W1,W1=w.drew.alloc (.cells ROW 194):=⟨_,rfl⟩;rw [<-hW1, <-hN] at hrz0;have hrz:∀ ty,(Builtin.append_ #[188,3] ty #[.slice (some ⟨g,0,none⟩) i cap,.int .i64 ((n:Int)+(m:Int)-(i:Int))]).run Tryz.prog w=.ok (.slice (some ⟨N,0,none⟩) (n+m) G) W1:=fun ty=>by
  rw [hkk];exact hrz0
 have g1:W1.heap[N]? = some (.cells ROW 194 (0,0)):=by rw [hW1,hN];exact heap_alloc_new w.drew _
 have b1:∀ k,k<N->W1.heap[k]? = w.heap[k]? := fun k hk=>by rw [hW1];exact Below.heap_alloc _ _ _ (by rw [hN] at hk;exact hk)
 have s1:W1.heap.size=N+1:=by rw [hW1,hN];simp
 have hcpA:∀ ty dc,(Builtin.copy_ #[188,188] ty #[.slice (some ⟨N,i*3,none⟩) (n+m-i) dc,.slice (some ⟨vb,0,none⟩) m 1]).run Tryz.prog W1=.ok (goInt (Nat.min m (n+m-i))) (W1.setRow N (ROW.toList.take (i*3)++encW r++ROW.toList.drop (i*3+(encW r).length)).toArray):=fun ty dc=>
  ZaU W1 188 188 ty 194 N (i*3) (n+m-i) dc ⟨vb,0,none⟩ m 1 3 ROW 194 (encW r) hui hsz g1
   (by rw [hRl];have:Nat.min m (n+m-i)=m:=Nat.min_eq_left (by omega);omega) (fun j u hj=>by
    rw [add8,Nat.zero_add];simp only [World.cell?]
    rw [b1 vb (by omega),hvb]
    simpa using hj) (by rw [hRl,hRs];omega) hr1
 obtain⟨c1,hc1⟩:∃ c1,c1=ROW.toList.take (i*3)++encW r++ROW.toList.drop (i*3+(encW r).length):=⟨_,rfl⟩;rw [<-hc1] at hcpA;have hc1l:c1.length=G*3:=by
  rw [hc1];simp only [List.length_append,List.length_take,List.length_drop,Array.length_toList,hRs,hRl]
  omega
 have hc1t:c1.take ((i+m)*3)=flat encW (ps.take i)++encW r:=by
  rw [hc1,hRt];rw [List.take_append_of_le_length (by simp only [List.length_append,hAl,hRl];omega),List.take_of_length_le (by simp only [List.length_append,hAl,hRl];omega)]
 obtain⟨W2,hW2⟩:∃ W2,W2=W1.setRow N c1.toArray:=⟨_,rfl⟩;rw [<-hW2] at hcpA;have g2:W2.heap[N]? = some (.cells c1.toArray 194 (0,0)):=by rw [hW2];exact setRow_heap W1 N ROW _ 194 _ g1
 have b2:∀ k,k<N->W2.heap[k]? = w.heap[k]? := fun k hk=>by rw [hW2,setRow_other W1 N k _ (by omega)];exact b1 k hk
 have s2:W2.heap.size=N+1:=by rw [hW2];simpa using s1
 have hcpB0:=fun dc sc=>ZaU (P:=Tryz.prog) W2.drew 188 188 3 194 N ((i+m)*3) (n+m-(i+m)) dc ⟨g,i*3,none⟩ (n-i) sc 3 c1.toArray 194 (flat encW (ps.drop i)) hui hsz g2
   (by rw [hD];congr 1;have:Nat.min (n-i) (n+m-(i+m))=n-i:=Nat.min_eq_left (by omega);omega) (fun j u hj=>by
    rw [add8];have h2:=hcellw (i*3+j) u (by rw [<-ZgY ps i (by omega),List.getElem?_drop] at hj;exact hj)
    simp only [World.cell?] at h2 |-
    rw [show W2.drew.heap[g]? = w.heap[g]? from b2 g (by omega)]
    exact h2) (by rw [hD];simp only [List.size_toArray,hc1l];omega) (ZeK _ (fun p hp=>hone p (List.mem_of_mem_drop hp)))
 obtain⟨c2,hc2⟩:∃ c2,c2=c1.take ((i+m)*3)++flat encW (ps.drop i)++c1.drop ((i+m)*3+(flat encW (ps.drop i)).length):=⟨_,rfl⟩;simp only [<-hc2] at hcpB0
 obtain⟨W3,hW3⟩:∃ W3,W3=W2.drew.setRow N c2.toArray:=⟨_,rfl⟩;rw [<-hW3] at hcpB0;have g3:W3.heap[N]? = some (.cells c2.toArray 194 (0,0)):=by rw [hW3];exact setRow_heap W2.drew N c1.toArray _ 194 _ g2
 have b3:∀ k,k<N->W3.heap[k]? = w.heap[k]? := fun k hk=>by rw [hW3,setRow_other W2.drew N k _ (by omega)];exact b2 k hk
 have s3:W3.heap.size=N+1:=by rw [hW3];simpa using s2
 have hfin:W3.ownsRow base 194 3 (.slice (some ⟨N,0,none⟩) (n+m) G) (n+m) (flat encW (ps.take i++[r]++ps.drop i))/\w.grownBy W3 (some g):=by
  refine⟨⟨?_,.inr ⟨N,G,c2.toArray,rfl,by rw [hN];exact hbase,g3,hGn,hGm,?_,?_⟩⟩,⟨?_,?_,?_,by omega,fun k hk _=>b3 k (by omega)⟩⟩
  ·rw [ZaF Zbg,ZhS ps r i (by omega)];omega
  ·rw [hc2,hc1t]
   simp only [List.size_toArray,List.length_append,List.length_drop,hc1l,hD,hRl,hAl]
   omega
  ·rw [Zf3,hc2,hc1t]
   exact ZbT (by rw [hAl,hRl,hD];omega)
  ·rw [hW3,hW2,hW1];rfl
  ·rw [hW3,hW2,hW1];rfl
  ·rw [hW3,hW2,hW1];rfl
 have hz1:¬((m:Int)=0):=by omega
 have hz2:¬((i:Int)=(n:Int)):=by omega
 have hz3:(cap:Int)<(n:Int)+(m:Int):=by omega
 have hw1:IntKind.i64.wrap ((i:Int)+(m:Int))=(i:Int)+(m:Int):=by rw [IntKind.wrap_i64];omega
 have hw2:IntKind.i64.wrap ((n:Int)+(m:Int))=(n:Int)+(m:Int):=by rw [IntKind.wrap_i64];omega
 have hw3:IntKind.i64.wrap ((n:Int)+(m:Int)-(i:Int))=(n:Int)+(m:Int)-(i:Int):=by rw [IntKind.wrap_i64];omega
 have hb1:(0:Int)<=(i:Int)+(m:Int):=by omega
 have hin:i<=n:=by omega
 have htn:((i:Int)+(m:Int)).toNat=i+m:=by omega
 have hb3:(i:Int)<=(n:Int):=by omega
 have hGi:¬(G=i):=by omega
 have hGim:¬(G=i+m):=by omega
 have hci:¬(cap=i):=by omega
 have hG63:G<=9223372036854775807:=by unfold maxLen at hGm;omega
 have HD:=hide hfin;have HNW:=hide hN;have HA:=hide hrz;have HC1:=hide hcpA;have HC2:=hide hcpB0;have mixed:Tryz.prog.follows .mixedOrders=true:=by kernel_rfl
 clear hfin hrz hcpA hcpB0 hrz0 g1 g2 g3 b1 b2 b3 s1 s2 s3 hW1 hW2 hW3 hc1 hc2 hc1l hc1t hROW hRs hRt hold hcellw hkk hik hN hG hGm hD hAl hRl hnl htk hcs hg hrow hvb hone hr1 hsz hi0 hz0 hzs hzb hm hnp
 go_enter Tryz.func247,Tryz.ntmps247
 go_wp2_with (first
  | (at_builtin;refine Lib.wpList_append_run _ rfl _ _ _ _ rfl _ _ rfl rfl _ _ (HA.out _) ?_)
  | (refine wpList_copy_runI _ rfl _ _ 188 188 rfl (.slice (some ⟨N,i*3,none⟩) (n+m-i) (G-i)) (.slice (some ⟨vb,0,none⟩) m 1) rfl rfl (HC1.out 3 (G-i)) ?_))
 go_region_law_o (refine step_copy_runI rfl _ _ 188 188 rfl (.slice (some ⟨N,(i+m)*3,none⟩) (n+m-(i+m)) (G-(i+m))) (.slice (some ⟨g,i*3,none⟩) (n-i) (cap-i)) (by simp [Act.eval,Act.put]) (by simp [Act.eval,Act.put]) (HC2.out (G-(i+m)) (cap-i)) ?_)
 go_wp2
 go_ret
 exact⟨_,rfl,HD.out.1,HD.out.2,.inr (by rw [<-HNW.out];rfl)⟩
theorem Zly (base g cap n m i vb:Nat)(ps:List RP)(r:RP)(w:World)(hnp:n=ps.length)(hm:m=1)(hrow:w.ownsRow base 39 8 (.slice (some ⟨g,0,none⟩) n cap) n (flat encP ps))(hi:i<n)(hroom:n+m<=cap)
  (hvb:w.heap[vb]? = some (.cells (encP r).toArray 39 (0,0))) (hne:vb≠g) (hone:∀ p∈ps,∃ a k c,p.2=.slice a k c) (hr1:∀ u∈encP r,u.oneCell'=true):
  Calls Tryz.prog 192 #[.slice (some ⟨g,0,none⟩) n cap,.int .i64 (i:Int),.slice (some ⟨vb,0,none⟩) m 1] w fun e w'=>∃ v,e=.returned v/\w'.ownsRow base 39 8 v (n+m) (flat encP (ps.take i++[r]++ps.drop i))/\w.grownBy w' (some g)/\(v.ownBlock=some g\/v.ownBlock=some w.heap.size):=by
 have hnl:(flat encP ps).length=n*8:=hrow.1;have hui:=Tryz.underlying97;have hus:=Tryz.underlying29;obtain⟨i0,hi0,hz0,hzs,hzb⟩:=info_parts Tryz.infoRec;have hsz:(Tryz.prog.info? 39).map (·.size)=some 8:=by rw [hi0];simp [hzs]
 rcases hrow.2 with ⟨h0,_⟩ | ⟨g',cap',cur,hv,hbg,hg,hnc,hcm,hcs,htk⟩
 ·simp at h0
 simp at hv
 obtain⟨rfl,rfl⟩:=hv;have hmx:maxLen=9223372036854775807\/maxLen<=9223372036854775807:=by unfold maxLen;omega
 have hc63:cap<=9223372036854775807:=by omega
 have hD:(flat encP (ps.drop i)).length=(n-i)*8:=by rw [ZaF Zav,List.length_drop, <-hnp]
 have hclen:cur.toList.length=cap*8:=by simpa using hcs
 have hRl:(encP r).length=8:=Zav r;have hov:∀ lb cb,(callFunc 231 #[.slice (some ⟨vb,0,none⟩) m 1,.slice (some ⟨g,(i+m)*8,none⟩) lb cb]).run Tryz.prog w=.ok (.value (.bool false)) w:=fun lb cb=>by
  rw [run_callFunc_extern Tryz.func231 (by kernel_rfl) (by kernel_rfl) (by kernel_rfl) (e:=Extern.SlicesOverlaps.overlaps #[29,29] #[4]) (by kernel_rfl),
   Lib.run_overlaps_apart w 29 4 39 hus 8 (by intro w;simp [Go.sizeOf,typeInfo,hi0,hzs]) ⟨vb,0,none⟩ ⟨g,(i+m)*8,none⟩ m 1 lb cb hne 39 39 8 cur.size (by simp [World.shape?,hvb,hRl]) (by simp [World.shape?,hg]) (by omega) (Zaf hvb 0) (Zaf hvb 8)]
  rfl
 have hcell:∀ (W:World),W.heap=w.heap->∀ j u,(flat encP (ps.drop i))[j]? = some u->W.cell? ((⟨g,i*8,none⟩:Addr).add j)=some u:=fun W hW j u hj=>by
  rw [add8];simp only [World.cell?,hW,hg]
  rw [<-ZeL ps i (by omega), <-htk,List.getElem?_drop] at hj
  have h2:i*8+j<n*8:=by
   have h3:=(List.getElem?_eq_some_iff.1 hj).1;rw [List.length_take] at h3;omega
  rw [List.getElem?_take_of_lt h2] at hj
  simpa using hj
 have hcp1:∀ (W:World),W.heap=w.heap->∀ ty dc sc,(Builtin.copy_ #[97,97] ty #[.slice (some ⟨g,(i+m)*8,none⟩) (n+m-(i+m)) dc,.slice (some ⟨g,i*8,none⟩) (n+m-i) sc]).run Tryz.prog W=.ok (goInt (Nat.min (n+m-i) (n+m-(i+m)))) (W.setRow g (cur.toList.take ((i+m)*8)++flat encP (ps.drop i)++cur.toList.drop ((i+m)*8+(flat encP (ps.drop i)).length)).toArray):=fun W hW ty dc sc=>
  ZaU W 97 97 ty 39 g ((i+m)*8) (n+m-(i+m)) dc ⟨g,i*8,none⟩ (n+m-i) sc 8 cur 39 (flat encP (ps.drop i)) hui hsz (by rw [hW];exact hg)
   (by rw [hD];congr 1;have:Nat.min (n+m-i) (n+m-(i+m))=n+m-(i+m):=Nat.min_eq_right (by omega);omega) (hcell W hW) (by rw [hD];omega) (ZcW _ (fun p hp=>hone p (List.mem_of_mem_drop hp)))
 obtain⟨c1,hc1⟩:∃ c1,c1=cur.toList.take ((i+m)*8)++flat encP (ps.drop i)++cur.toList.drop ((i+m)*8+(flat encP (ps.drop i)).length):=⟨_,rfl⟩;rw [<-hc1] at hcp1;have hc1l:c1.length=cap*8:=by rw [hc1];simp only [List.length_append,List.length_take,List.length_drop,hclen,hD];omega
 have hcp2:∀ (W:World),W.heap=(w.setRow g c1.toArray).heap->∀ ty dc,(Builtin.copy_ #[97,29] ty #[.slice (some ⟨g,i*8,none⟩) (n+m-i) dc,.slice (some ⟨vb,0,none⟩) m 1]).run Tryz.prog W=.ok (goInt (Nat.min m (n+m-i))) (W.setRow g (c1.take (i*8)++encP r++c1.drop (i*8+(encP r).length)).toArray):=fun W hW ty dc=>by
  have h:=ZaU (P:=Tryz.prog) W 97 29 ty 39 g (i*8) (n+m-i) dc ⟨vb,0,none⟩ m 1 8 c1.toArray 39 (encP r) hui hsz (by rw [hW];exact setRow_heap w g cur _ 39 _ hg)
   (by rw [hRl];have:Nat.min m (n+m-i)=m:=Nat.min_eq_left (by omega);omega) (fun j u hj=>by
    rw [add8];simp only [World.cell?,hW]
    rw [setRow_other w g vb _ hne,hvb]
    simpa using hj) (by rw [hRl];simp only [List.size_toArray,hc1l];omega) hr1
  simpa using h
 have hfin:c1.take (i*8)++encP r++c1.drop (i*8+(encP r).length)=flat encP (ps.take i)++encP r++flat encP (ps.drop i)++cur.toList.drop (i*8+8+(n-i)*8):=by
  have h:=ZnA cur.toList (flat encP (ps.drop i)) (encP r) (i*8) ((n-i)*8) hD hRl (by omega)
  rw [show i*8+8=(i+m)*8 by omega, <-hc1] at h
  rw [h]
  congr 3
  ·rw [<-Zdv ps i (by omega), <-htk,List.take_take,Nat.min_eq_left (by omega)]
  ·omega
 have hdone:∀ W:World,W.heap=((w.setRow g c1.toArray).setRow g (c1.take (i*8)++encP r++c1.drop (i*8+(encP r).length)).toArray).heap->W.os=w.os->W.tape=w.tape->W.output=w.output->W.ownsRow base 39 8 (.slice (some ⟨g,0,none⟩) (n+m) cap) (n+m) (flat encP (ps.take i++[r]++ps.drop i))/\w.grownBy W (some g)/\((Value.slice (some ⟨g,0,none⟩) (n+m) cap).ownBlock=some g\/(Value.slice (some ⟨g,0,none⟩) (n+m) cap).ownBlock=some w.heap.size):=by
  intro W hW h1 h2 h3;have hAl:(flat encP (ps.take i)).length=i*8:=by rw [ZaF Zav,List.length_take,Nat.min_eq_left (by omega)]
  refine⟨⟨?_,.inr ⟨g,cap,(flat encP (ps.take i)++encP r++flat encP (ps.drop i)++cur.toList.drop (i*8+8+(n-i)*8)).toArray,rfl,hbg,?_,hroom,hcm,?_,?_⟩⟩,⟨h1,h2,h3,?_,?_⟩,.inl rfl⟩
  ·rw [ZaF Zav,Zf6 ps r i (by omega)];omega
  ·rw [hW,hfin]
   exact setRow_heap _ g c1.toArray _ 39 _ (setRow_heap w g cur _ 39 _ hg)
  ·simp only [List.size_toArray,List.length_append,List.length_drop,hclen,hD,hRl,hAl];omega
  ·rw [ZdS]
   exact ZbT (by rw [hAl,hRl,hD];omega)
  ·rw [hW];simp
  ·intro k _ hk
   have hkg:k≠g:=fun e=>hk (by rw [e])
   rw [hW,setRow_other _ g k _ hkg,setRow_other _ g k _ hkg]
 have hz1:¬((m:Int)=0):=by omega
 have hz2:¬((i:Int)=(n:Int)):=by omega
 have hw1:IntKind.i64.wrap ((i:Int)+(m:Int))=(i:Int)+(m:Int):=by rw [IntKind.wrap_i64];omega
 have hw2:IntKind.i64.wrap ((n:Int)+(m:Int))=(n:Int)+(m:Int):=by rw [IntKind.wrap_i64];omega
 have hb1:(0:Int)<=(i:Int)+(m:Int):=by omega
 have hin:i<=n:=by omega
 have htn:((i:Int)+(m:Int)).toNat=i+m:=by omega
 have htn2:((n:Int)+(m:Int)).toNat=n+m:=by omega
 have hb2:¬(cap=i+m):=by omega
 have hb3:(i:Int)<=(n:Int)+(m:Int):=by omega
 have hb4:¬(cap=i):=by omega
 have hb5:¬((cap:Int)<(n:Int)+(m:Int)):=by omega
 have HD:=hide hdone;have HC1:=hide (hcp1 w.drew rfl);have mixed:Tryz.prog.follows .mixedOrders=true:=by kernel_rfl
 have HC2:=hide (hcp2 (w.drew.setRow g c1.toArray) rfl);have HOV:=hide hov;clear hdone hcp1 hcp2 hfin hc1 hcell hD hclen hRl hnl hov hc1l htk hcs hg hrow hvb hone hr1 hmx hsz hi0 hz0 hzs hzb hm hnp
 go_enter Tryz.func192,Tryz.ntmps192
 go_wp2_with (simp only [HOV.out])
 go_region_law_o (refine step_copy_runI rfl _ _ 97 97 rfl (.slice (some ⟨g,(i+m)*8,none⟩) (n+m-(i+m)) (cap-(i+m))) (.slice (some ⟨g,i*8,none⟩) (n+m-i) (cap-i)) (by simp [Act.eval,Act.put]) (by simp [Act.eval,Act.put]) (HC1.out 3 (cap-(i+m)) (cap-i)) ?_)
 go_wp2_with (refine wpList_copy_runI _ rfl _ _ 97 29 rfl (.slice (some ⟨g,i*8,none⟩) (n+m-i) (cap-i)) (.slice (some ⟨vb,0,none⟩) m 1) rfl rfl (HC2.out 3 (cap-i)) ?_)
 go_ret
 exact⟨_,rfl,HD.out _ (by rw [<-List.append_assoc];rfl) rfl rfl rfl⟩
theorem Zgs (base n m vb:Nat)(v:Value)(ps:List RP)(r:RP)(w:World)(hnp:n=ps.length)(hm:m=1)(hbase:base<=w.heap.size)(hn:n<=1048576)(hrow:w.ownsRow base 39 8 v n (flat encP ps))
  (hvb:w.heap[vb]? = some (.cells (encP r).toArray 39 (0,0))) (hr1:∀ u∈encP r,u.oneCell'=true):∃ v' w',(∀ ty,(Builtin.append_ #[97,29] ty #[v,.slice (some ⟨vb,0,none⟩) m 1]).run Tryz.prog w=.ok v' w')/\w'.ownsRow base 39 8 v' (n+m) (flat encP (ps.take n++[r]++ps.drop n))/\w.grownBy w' v.ownBlock/\(v'.ownBlock=v.ownBlock\/v'.ownBlock=some w.heap.size):=by
 obtain⟨i0,hi0,hz0,hzs,hzb⟩:=info_parts Tryz.infoRec;obtain⟨a,c,hv⟩:=Zac hrow;obtain⟨v',w',h1,h2,h3,_,h4⟩:=run_append_own_at (P:=Tryz.prog) w base 97 97 39 i0 _ 8 i0.bytes Tryz.underlying97 hi0 hz0 hzs rfl rfl (by omega) v n (flat encP ps) hrow ⟨vb,0,none⟩ m 1 (encP r) (by rw [Zav,hm]) (fun j u hj=>by
  rw [add8,Nat.zero_add,Zaa hvb]
  simpa using hj) hr1 (by unfold maxLen;omega) (by rw [hzb];omega) hbase
 refine⟨v',w',fun ty=>?_,?_,h3,h4⟩
 ·rw [hv,Zds w 97 29 ty 39 i0 Tryz.underlying97 Tryz.underlying29 hi0, <-hv]
  exact h1
 ·rw [ZdS,hnp,List.take_length,List.drop_length]
  rw [hnp] at h2
  simpa [flat] using h2
theorem Zor (base n m vb:Nat)(v:Value)(ps:List RP)(r:RP)(w:World)(hnp:n=ps.length)(hm:m=1)(hbase:base<=w.heap.size)(hn:n<=1048576)(hrow:w.ownsRow base 39 8 v n (flat encP ps))
  (hvb:w.heap[vb]? = some (.cells (encP r).toArray 39 (0,0))) (hr1:∀ u∈encP r,u.oneCell'=true):
  Calls Tryz.prog 192 #[v,.int .i64 (n:Int),.slice (some ⟨vb,0,none⟩) m 1] w fun e w'=>∃ v',e=.returned v'/\w'.ownsRow base 39 8 v' (n+m) (flat encP (ps.take n++[r]++ps.drop n))/\w.grownBy w' v.ownBlock/\(v'.ownBlock=v.ownBlock\/v'.ownBlock=some w.heap.size):=by
 obtain⟨v',w',h1,h2,h3,h4⟩:=Zgs base n m vb v ps r w hnp hm hbase hn hrow hvb hr1;obtain⟨va,vc,hve⟩:=Zac h2;subst hve;have HR:=hide h1;generalize ps.take n++[r]++ps.drop n=l at *;have H2:=hide h2;have H3:=hide h3;have H4:=hide h4;have hz1:¬((m:Int)=0):=by omega
 clear h1 h2 h3 h4 hvb hr1 hm hnp
 rcases hrow.2 with ⟨h0,hn0⟩ | ⟨g,cap,cur,hv,hbg,hg,hnc,hcm,hcs,htk⟩
 ·subst h0
  clear hrow;subst hn0
  go_enter Tryz.func192,Tryz.ntmps192
  go_wp2_with (at_builtin;refine Lib.wpList_append_run _ rfl _ _ _ _ rfl _ _ rfl rfl _ _ (HR.out _) ?_)
  go_ret
  exact⟨_,rfl,(by simpa using H2.out),H3.out,(by simpa [Value.ownBlock] using H4.out)⟩
 ·subst hv
  have hc63:cap<=9223372036854775807:=by unfold maxLen at hcm;omega
  clear hrow hg hcs htk
  go_enter Tryz.func192,Tryz.ntmps192
  go_wp2_with (at_builtin;refine Lib.wpList_append_run _ rfl _ _ _ _ rfl _ _ rfl rfl _ _ (HR.out _) ?_)
  all_goals (go_ret;exact⟨_,rfl,H2.out,H3.out,H4.out⟩)
theorem ZmU (base g cap n m i vb:Nat)(ps:List RP)(r:RP)(w:World)(hnp:n=ps.length)(hm:m=1)(hbase:base<=w.heap.size)(hn:n<=1048576)(hrow:w.ownsRow base 39 8 (.slice (some ⟨g,0,none⟩) n cap) n (flat encP ps))(hi:i<n)(hroom:cap<n+m)
  (hvb:w.heap[vb]? = some (.cells (encP r).toArray 39 (0,0))) (hone:∀ p∈ps,∃ a k c,p.2=.slice a k c) (hr1:∀ u∈encP r,u.oneCell'=true):
  Calls Tryz.prog 192 #[.slice (some ⟨g,0,none⟩) n cap,.int .i64 (i:Int),.slice (some ⟨vb,0,none⟩) m 1] w fun e w'=>∃ v,e=.returned v/\w'.ownsRow base 39 8 v (n+m) (flat encP (ps.take i++[r]++ps.drop i))/\w.grownBy w' (some g)/\(v.ownBlock=some g\/v.ownBlock=some w.heap.size):=by
 have hnl:(flat encP ps).length=n*8:=hrow.1;have hui:=Tryz.underlying97;have hus:=Tryz.underlying29;obtain⟨i0,hi0,hz0,hzs,hzb⟩:=info_parts Tryz.infoRec;have hsz:(Tryz.prog.info? 39).map (·.size)=some 8:=by rw [hi0];simp [hzs]
 rcases hrow.2 with ⟨h0,_⟩ | ⟨g',cap',cur,hv,hbg,hg,hnc,hcm,hcs,htk⟩
 ·simp at h0
 simp at hv
 obtain⟨rfl,rfl⟩:=hv;have hc63:cap<=9223372036854775807:=by unfold maxLen at hcm;omega
 have hgw:=Zab hg;have hvw:=Zab hvb;have hD:(flat encP (ps.drop i)).length=(n-i)*8:=by rw [ZaF Zav,List.length_drop, <-hnp]
 have hAl:(flat encP (ps.take i)).length=i*8:=by rw [ZaF Zav,List.length_take,Nat.min_eq_left (by omega)]
 have hRl:(encP r).length=8:=Zav r;have hkk:(n:Int)+(m:Int)-(i:Int)=((n+m-i:Nat):Int):=by omega
 have hik:i+(n+m-i)=n+m:=by omega
 have hcellw:∀ (j:Nat) (u:Value),(flat encP ps)[j]? = some u->w.cell? ⟨g,j,none⟩=some u:=fun j u hj=>by
  have h2:j<n*8:=by rw [<-hnl];exact (List.getElem?_eq_some_iff.1 hj).1
  rw [<-htk,List.getElem?_take_of_lt h2] at hj;rw [Zaa hg]
  simpa using hj
 have hold:(Builtin.firstCells i0.size i (.slice (some ⟨g,0,none⟩) i cap)).run Tryz.prog w.drew=.ok (flat encP (ps.take i)).toArray w.drew:=by
  rw [hzs];exact run_firstCells_some w.drew 8 i ⟨g,0,none⟩ i cap (flat encP (ps.take i)) hAl (fun j v hj=>by
   rw [add8,Nat.zero_add];refine hcellw j v ?_
   rw [<-Zdv ps i (by omega),List.getElem?_take] at hj
   split at hj
   ·exact hj
   ·cases hj)
 have hrz0:=Lib.run_append_grow_zeros (P:=Tryz.prog) w 97 3 97 39 i0 _ .i64 .i64 hui Tryz.underlying3 hi0 hz0 (some ⟨g,0,none⟩) i cap (flat encP (ps.take i)) hold (n+m-i) (by omega) (by rw [hzs];omega) (by omega) (by omega) (by rw [hzb];omega) (by rw [hzb,hik];exact growslice_fits hroom (by omega))
 rw [hik] at hrz0;have hGn:=grownCap_ge w (n+m) cap 39;have hGm:=grownCap_le_maxLen w (n+m) cap 39 (by unfold maxLen;omega)
 obtain⟨G,hG⟩:∃ G,G=grownCap w (n+m) cap 39:=⟨_,rfl⟩;rw [<-hG] at hrz0 hGn hGm;obtain⟨ROW,hROW⟩:∃ ROW:Array Value,ROW=(flat encP (ps.take i)).toArray++Builtin.zeroCells (Value.agg (recC Za6 (.slice none 0 0))).cells (n+m-i)++Builtin.zeroCells (Value.agg (recC Za6 (.slice none 0 0))).cells (G-(n+m)):=⟨_,rfl⟩;rw [<-hROW] at hrz0;have hRs:ROW.size=G*8:=by
  rw [hROW];simp only [Array.size_append,List.size_toArray,size_zeroCells,hAl,show (Value.agg (recC Za6 (.slice none 0 0))).cells.size=8 from rfl]
  omega
 have hRt:ROW.toList.take (i*8)=flat encP (ps.take i):=by
  rw [hROW];simp only [Array.toList_append,List.append_assoc]
  rw [<-hAl];exact List.take_left
 obtain⟨N,hN⟩:∃ N,N=w.heap.size:=⟨_,rfl⟩;obtain⟨W1,hW1⟩:∃ W1,W1=w.drew.alloc (.cells ROW 39):=⟨_,rfl⟩;rw [<-hW1, <-hN] at hrz0;have hrz:∀ ty,(Builtin.append_ #[97,3] ty #[.slice (some ⟨g,0,none⟩) i cap,.int .i64 ((n:Int)+(m:Int)-(i:Int))]).run Tryz.prog w=.ok (.slice (some ⟨N,0,none⟩) (n+m) G) W1:=fun ty=>by
  rw [hkk];exact hrz0
 have g1:W1.heap[N]? = some (.cells ROW 39 (0,0)):=by rw [hW1,hN];exact heap_alloc_new w.drew _
 have b1:∀ k,k<N->W1.heap[k]? = w.heap[k]? := fun k hk=>by rw [hW1];exact Below.heap_alloc _ _ _ (by rw [hN] at hk;exact hk)
 have s1:W1.heap.size=N+1:=by rw [hW1,hN];simp
 have hcpA:∀ ty dc,(Builtin.copy_ #[97,29] ty #[.slice (some ⟨N,i*8,none⟩) (n+m-i) dc,.slice (some ⟨vb,0,none⟩) m 1]).run Tryz.prog W1=.ok (goInt (Nat.min m (n+m-i))) (W1.setRow N (ROW.toList.take (i*8)++encP r++ROW.toList.drop (i*8+(encP r).length)).toArray):=fun ty dc=>
  ZaU W1 97 29 ty 39 N (i*8) (n+m-i) dc ⟨vb,0,none⟩ m 1 8 ROW 39 (encP r) hui hsz g1
   (by rw [hRl];have:Nat.min m (n+m-i)=m:=Nat.min_eq_left (by omega);omega) (fun j u hj=>by
    rw [add8,Nat.zero_add];simp only [World.cell?]
    rw [b1 vb (by omega),hvb]
    simpa using hj) (by rw [hRl,hRs];omega) hr1
 obtain⟨c1,hc1⟩:∃ c1,c1=ROW.toList.take (i*8)++encP r++ROW.toList.drop (i*8+(encP r).length):=⟨_,rfl⟩;rw [<-hc1] at hcpA;have hc1l:c1.length=G*8:=by
  rw [hc1];simp only [List.length_append,List.length_take,List.length_drop,Array.length_toList,hRs,hRl]
  omega
 have hc1t:c1.take ((i+m)*8)=flat encP (ps.take i)++encP r:=by
  rw [hc1,hRt];rw [List.take_append_of_le_length (by simp only [List.length_append,hAl,hRl];omega),List.take_of_length_le (by simp only [List.length_append,hAl,hRl];omega)]
 obtain⟨W2,hW2⟩:∃ W2,W2=W1.setRow N c1.toArray:=⟨_,rfl⟩;rw [<-hW2] at hcpA;have g2:W2.heap[N]? = some (.cells c1.toArray 39 (0,0)):=by rw [hW2];exact setRow_heap W1 N ROW _ 39 _ g1
 have b2:∀ k,k<N->W2.heap[k]? = w.heap[k]? := fun k hk=>by rw [hW2,setRow_other W1 N k _ (by omega)];exact b1 k hk
 have s2:W2.heap.size=N+1:=by rw [hW2];simpa using s1
 have hcpB0:=fun dc sc=>ZaU (P:=Tryz.prog) W2.drew 97 97 3 39 N ((i+m)*8) (n+m-(i+m)) dc ⟨g,i*8,none⟩ (n-i) sc 8 c1.toArray 39 (flat encP (ps.drop i)) hui hsz g2
   (by rw [hD];congr 1;have:Nat.min (n-i) (n+m-(i+m))=n-i:=Nat.min_eq_left (by omega);omega) (fun j u hj=>by
    rw [add8];have h2:=hcellw (i*8+j) u (by rw [<-ZeL ps i (by omega),List.getElem?_drop] at hj;exact hj)
    simp only [World.cell?] at h2 |-
    rw [show W2.drew.heap[g]? = w.heap[g]? from b2 g (by omega)]
    exact h2) (by rw [hD];simp only [List.size_toArray,hc1l];omega) (ZcW _ (fun p hp=>hone p (List.mem_of_mem_drop hp)))
 obtain⟨c2,hc2⟩:∃ c2,c2=c1.take ((i+m)*8)++flat encP (ps.drop i)++c1.drop ((i+m)*8+(flat encP (ps.drop i)).length):=⟨_,rfl⟩;simp only [<-hc2] at hcpB0
 obtain⟨W3,hW3⟩:∃ W3,W3=W2.drew.setRow N c2.toArray:=⟨_,rfl⟩;rw [<-hW3] at hcpB0;have g3:W3.heap[N]? = some (.cells c2.toArray 39 (0,0)):=by rw [hW3];exact setRow_heap W2.drew N c1.toArray _ 39 _ g2
 have b3:∀ k,k<N->W3.heap[k]? = w.heap[k]? := fun k hk=>by rw [hW3,setRow_other W2.drew N k _ (by omega)];exact b2 k hk
 have s3:W3.heap.size=N+1:=by rw [hW3];simpa using s2
 have hfin:W3.ownsRow base 39 8 (.slice (some ⟨N,0,none⟩) (n+m) G) (n+m) (flat encP (ps.take i++[r]++ps.drop i))/\w.grownBy W3 (some g):=by
  refine⟨⟨?_,.inr ⟨N,G,c2.toArray,rfl,by rw [hN];exact hbase,g3,hGn,hGm,?_,?_⟩⟩,⟨?_,?_,?_,by omega,fun k hk _=>b3 k (by omega)⟩⟩
  ·rw [ZaF Zav,Zf6 ps r i (by omega)];omega
  ·rw [hc2,hc1t]
   simp only [List.size_toArray,List.length_append,List.length_drop,hc1l,hD,hRl,hAl]
   omega
  ·rw [ZdS,hc2,hc1t]
   exact ZbT (by rw [hAl,hRl,hD];omega)
  ·rw [hW3,hW2,hW1];rfl
  ·rw [hW3,hW2,hW1];rfl
  ·rw [hW3,hW2,hW1];rfl
 have hz1:¬((m:Int)=0):=by omega
 have hz2:¬((i:Int)=(n:Int)):=by omega
 have hz3:(cap:Int)<(n:Int)+(m:Int):=by omega
 have hw1:IntKind.i64.wrap ((i:Int)+(m:Int))=(i:Int)+(m:Int):=by rw [IntKind.wrap_i64];omega
 have hw2:IntKind.i64.wrap ((n:Int)+(m:Int))=(n:Int)+(m:Int):=by rw [IntKind.wrap_i64];omega
 have hw3:IntKind.i64.wrap ((n:Int)+(m:Int)-(i:Int))=(n:Int)+(m:Int)-(i:Int):=by rw [IntKind.wrap_i64];omega
 have hb1:(0:Int)<=(i:Int)+(m:Int):=by omega
 have hin:i<=n:=by omega
 have htn:((i:Int)+(m:Int)).toNat=i+m:=by omega
 have hb3:(i:Int)<=(n:Int):=by omega
 have hGi:¬(G=i):=by omega
 have hGim:¬(G=i+m):=by omega
 have hci:¬(cap=i):=by omega
 have hG63:G<=9223372036854775807:=by unfold maxLen at hGm;omega
 have HD:=hide hfin;have HNW:=hide hN;have HA:=hide hrz;have HC1:=hide hcpA;have HC2:=hide hcpB0;have mixed:Tryz.prog.follows .mixedOrders=true:=by kernel_rfl
 clear hfin hrz hcpA hcpB0 hrz0 g1 g2 g3 b1 b2 b3 s1 s2 s3 hW1 hW2 hW3 hc1 hc2 hc1l hc1t hROW hRs hRt hold hcellw hkk hik hN hG hGm hD hAl hRl hnl htk hcs hg hrow hvb hone hr1 hsz hi0 hz0 hzs hzb hm hnp
 go_enter Tryz.func192,Tryz.ntmps192
 go_wp2_with (first
  | (at_builtin;refine Lib.wpList_append_run _ rfl _ _ _ _ rfl _ _ rfl rfl _ _ (HA.out _) ?_)
  | (refine wpList_copy_runI _ rfl _ _ 97 29 rfl (.slice (some ⟨N,i*8,none⟩) (n+m-i) (G-i)) (.slice (some ⟨vb,0,none⟩) m 1) rfl rfl (HC1.out 3 (G-i)) ?_))
 go_region_law_o (refine step_copy_runI rfl _ _ 97 97 rfl (.slice (some ⟨N,(i+m)*8,none⟩) (n+m-(i+m)) (G-(i+m))) (.slice (some ⟨g,i*8,none⟩) (n-i) (cap-i)) (by simp [Act.eval,Act.put]) (by simp [Act.eval,Act.put]) (HC2.out (G-(i+m)) (cap-i)) ?_)
 go_wp2
 go_ret
 exact⟨_,rfl,HD.out.1,HD.out.2,.inr (by rw [<-HNW.out];rfl)⟩
end Go.Proofs.YtadokhjefnkajaaGreat
