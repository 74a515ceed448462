/-
  InsWB BsW PutDag
-/
import Derived.Test.YtgdgkgmjpnbbcaaGreatOn34
import Derived.Maps.AppendAt
import Derived.Test.YtgdgkgmjpnbbcaaGreatOn9
import Derived.Test.YtgdgkgmjpnbbcaaGreatOn2
namespace Go.Proofs.YtgdgkgmjpnbbcaaGreat
open Go.RowKit
set_option linter.unusedSimpArgs false
set_option linter.unusedVariables false
set_option maxRecDepth 100000
set_option maxHeartbeats 8000000
theorem Zk8 (base g cap n m i vb:Nat)(ps:List WP)(r:WP)(w:World)(hnp:n=ps.length)(hm:m=1)(hrow:w.ownsRow base 48 3 (.slice (some ⟨g,0,none⟩) n cap) n (flat encW ps))(hi:i<n)(hroom:n+m<=cap)
  (hvb:w.heap[vb]? = some (.cells (encW r).toArray 48 (0,0))) (hne:vb≠g) (hone:∀ p∈ps,∃ a k c,p.2=.slice a k c) (hr1:∀ u∈encW r,u.oneCell'=true):
  Calls Tryz.prog 81 #[.slice (some ⟨g,0,none⟩) n cap,.int .i64 (i:Int),.slice (some ⟨vb,0,none⟩) m 1] w fun e w'=>∃ v,e=.returned v/\w'.ownsRow base 48 3 v (n+m) (flat encW (ps.take i++[r]++ps.drop i))/\w.grownBy w' (some g)/\(v.ownBlock=some g\/v.ownBlock=some w.heap.size):=by
 have hnl:(flat encW ps).length=n*3:=hrow.1;have hui:=Tryz.underlying41;have hus:=Tryz.underlying41;obtain⟨i0,hi0,hz0,hzs,hzb⟩:=info_parts Tryz.infoWay;have hsz:(Tryz.prog.info? 48).map (·.size)=some 3:=by rw [hi0];simp [hzs]
 rcases hrow.2 with ⟨h0,_⟩ | ⟨g',cap',cur,hv,hbg,hg,hnc,hcm,hcs,htk⟩
 ·simp at h0
 simp at hv
 obtain⟨rfl,rfl⟩:=hv;have hmx:maxLen=9223372036854775807\/maxLen<=9223372036854775807:=by unfold maxLen;omega
 have hc63:cap<=9223372036854775807:=by omega
 have hD:(flat encW (ps.drop i)).length=(n-i)*3:=by rw [ZaX Zbd,List.length_drop, <-hnp]
 have hclen:cur.toList.length=cap*3:=by simpa using hcs
 have hRl:(encW r).length=3:=Zbd r;have hov:∀ lb cb,(callFunc 107 #[.slice (some ⟨vb,0,none⟩) m 1,.slice (some ⟨g,(i+m)*3,none⟩) lb cb]).run Tryz.prog w=.ok (.value (.bool false)) w:=fun lb cb=>by
  rw [run_callFunc_extern Tryz.func107 (by kernel_rfl) (by kernel_rfl) (by kernel_rfl) (e:=Extern.SlicesOverlaps.overlaps #[41,41] #[4]) (by kernel_rfl),
   Lib.run_overlaps_apart w 41 4 48 hus 3 (by intro w;simp [Go.sizeOf,typeInfo,hi0,hzs]) ⟨vb,0,none⟩ ⟨g,(i+m)*3,none⟩ m 1 lb cb hne 48 48 3 cur.size (by simp [World.shape?,hvb,hRl]) (by simp [World.shape?,hg]) (by omega) (Zae hvb 0) (Zae hvb 3)]
  rfl
 have hcell:∀ (W:World),W.heap=w.heap->∀ j u,(flat encW (ps.drop i))[j]? = some u->W.cell? ((⟨g,i*3,none⟩:Addr).add j)=some u:=fun W hW j u hj=>by
  rw [add8];simp only [World.cell?,hW,hg]
  rw [<-Zhe ps i (by omega), <-htk,List.getElem?_drop] at hj
  have h2:i*3+j<n*3:=by
   have h3:=(List.getElem?_eq_some_iff.1 hj).1;rw [List.length_take] at h3;omega
  rw [List.getElem?_take_of_lt h2] at hj
  simpa using hj
 have hcp1:∀ (W:World),W.heap=w.heap->∀ ty dc sc,(Builtin.copy_ #[41,41] ty #[.slice (some ⟨g,(i+m)*3,none⟩) (n+m-(i+m)) dc,.slice (some ⟨g,i*3,none⟩) (n+m-i) sc]).run Tryz.prog W=.ok (goInt (Nat.min (n+m-i) (n+m-(i+m)))) (W.setRow g (cur.toList.take ((i+m)*3)++flat encW (ps.drop i)++cur.toList.drop ((i+m)*3+(flat encW (ps.drop i)).length)).toArray):=fun W hW ty dc sc=>
  Zbr W 41 41 ty 48 g ((i+m)*3) (n+m-(i+m)) dc ⟨g,i*3,none⟩ (n+m-i) sc 3 cur 48 (flat encW (ps.drop i)) hui hsz (by rw [hW];exact hg)
   (by rw [hD];congr 1;have:Nat.min (n+m-i) (n+m-(i+m))=n+m-(i+m):=Nat.min_eq_right (by omega);omega) (hcell W hW) (by rw [hD];omega) (ZeY _ (fun p hp=>hone p (List.mem_of_mem_drop hp)))
 obtain⟨c1,hc1⟩:∃ c1,c1=cur.toList.take ((i+m)*3)++flat encW (ps.drop i)++cur.toList.drop ((i+m)*3+(flat encW (ps.drop i)).length):=⟨_,rfl⟩;rw [<-hc1] at hcp1;have hc1l:c1.length=cap*3:=by rw [hc1];simp only [List.length_append,List.length_take,List.length_drop,hclen,hD];omega
 have hcp2:∀ (W:World),W.heap=(w.setRow g c1.toArray).heap->∀ ty dc,(Builtin.copy_ #[41,41] ty #[.slice (some ⟨g,i*3,none⟩) (n+m-i) dc,.slice (some ⟨vb,0,none⟩) m 1]).run Tryz.prog W=.ok (goInt (Nat.min m (n+m-i))) (W.setRow g (c1.take (i*3)++encW r++c1.drop (i*3+(encW r).length)).toArray):=fun W hW ty dc=>by
  have h:=Zbr (P:=Tryz.prog) W 41 41 ty 48 g (i*3) (n+m-i) dc ⟨vb,0,none⟩ m 1 3 c1.toArray 48 (encW r) hui hsz (by rw [hW];exact setRow_heap w g cur _ 48 _ hg)
   (by rw [hRl];have:Nat.min m (n+m-i)=m:=Nat.min_eq_left (by omega);omega) (fun j u hj=>by
    rw [add8];simp only [World.cell?,hW]
    rw [setRow_other w g vb _ hne,hvb]
    simpa using hj) (by rw [hRl];simp only [List.size_toArray,hc1l];omega) hr1
  simpa using h
 have hfin:c1.take (i*3)++encW r++c1.drop (i*3+(encW r).length)=flat encW (ps.take i)++encW r++flat encW (ps.drop i)++cur.toList.drop (i*3+3+(n-i)*3):=by
  have h:=Zon cur.toList (flat encW (ps.drop i)) (encW r) (i*3) ((n-i)*3) hD hRl (by omega)
  rw [show i*3+3=(i+m)*3 by omega, <-hc1] at h
  rw [h]
  congr 3
  ·rw [<-Zhf ps i (by omega), <-htk,List.take_take,Nat.min_eq_left (by omega)]
  ·omega
 have hdone:∀ W:World,W.heap=((w.setRow g c1.toArray).setRow g (c1.take (i*3)++encW r++c1.drop (i*3+(encW r).length)).toArray).heap->W.os=w.os->W.tape=w.tape->W.output=w.output->W.ownsRow base 48 3 (.slice (some ⟨g,0,none⟩) (n+m) cap) (n+m) (flat encW (ps.take i++[r]++ps.drop i))/\w.grownBy W (some g)/\((Value.slice (some ⟨g,0,none⟩) (n+m) cap).ownBlock=some g\/(Value.slice (some ⟨g,0,none⟩) (n+m) cap).ownBlock=some w.heap.size):=by
  intro W hW h1 h2 h3;have hAl:(flat encW (ps.take i)).length=i*3:=by rw [ZaX Zbd,List.length_take,Nat.min_eq_left (by omega)]
  refine⟨⟨?_,.inr ⟨g,cap,(flat encW (ps.take i)++encW r++flat encW (ps.drop i)++cur.toList.drop (i*3+3+(n-i)*3)).toArray,rfl,hbg,?_,hroom,hcm,?_,?_⟩⟩,⟨h1,h2,h3,?_,?_⟩,.inl rfl⟩
  ·rw [ZaX Zbd,Zh1 ps r i (by omega)];omega
  ·rw [hW,hfin]
   exact setRow_heap _ g c1.toArray _ 48 _ (setRow_heap w g cur _ 48 _ hg)
  ·simp only [List.size_toArray,List.length_append,List.length_drop,hclen,hD,hRl,hAl];omega
  ·rw [Zgr]
   exact ZcI (by rw [hAl,hRl,hD];omega)
  ·rw [hW];simp
  ·intro k _ hk
   have hkg:k≠g:=fun e=>hk (by rw [e])
   rw [hW,setRow_other _ g k _ hkg,setRow_other _ g k _ hkg]
 have hz1:¬((m:Int)=0):=by omega
 have hz2:¬((i:Int)=(n:Int)):=by omega
 have hw1:IntKind.i64.wrap ((i:Int)+(m:Int))=(i:Int)+(m:Int):=by rw [IntKind.wrap_i64];omega
 have hw2:IntKind.i64.wrap ((n:Int)+(m:Int))=(n:Int)+(m:Int):=by rw [IntKind.wrap_i64];omega
 have hb1:(0:Int)<=(i:Int)+(m:Int):=by omega
 have hin:i<=n:=by omega
 have htn:((i:Int)+(m:Int)).toNat=i+m:=by omega
 have htn2:((n:Int)+(m:Int)).toNat=n+m:=by omega
 have hb2:¬(cap=i+m):=by omega
 have hb3:(i:Int)<=(n:Int)+(m:Int):=by omega
 have hb4:¬(cap=i):=by omega
 have hb5:¬((cap:Int)<(n:Int)+(m:Int)):=by omega
 have HD:=hide hdone;have HC1:=hide (hcp1 w.drew rfl);have mixed:Tryz.prog.follows .mixedOrders=true:=by kernel_rfl
 have HC2:=hide (hcp2 (w.drew.setRow g c1.toArray) rfl);have HOV:=hide hov;clear hdone hcp1 hcp2 hfin hc1 hcell hD hclen hRl hnl hov hc1l htk hcs hg hrow hvb hone hr1 hmx hsz hi0 hz0 hzs hzb hm hnp
 go_enter Tryz.func81,Tryz.ntmps81
 go_wp2_with (simp only [HOV.out])
 go_region_law_o (refine step_copy_runI rfl _ _ 41 41 rfl (.slice (some ⟨g,(i+m)*3,none⟩) (n+m-(i+m)) (cap-(i+m))) (.slice (some ⟨g,i*3,none⟩) (n+m-i) (cap-i)) (by simp [Act.eval,Act.put]) (by simp [Act.eval,Act.put]) (HC1.out 3 (cap-(i+m)) (cap-i)) ?_)
 go_wp2_with (refine wpList_copy_runI _ rfl _ _ 41 41 rfl (.slice (some ⟨g,i*3,none⟩) (n+m-i) (cap-i)) (.slice (some ⟨vb,0,none⟩) m 1) rfl rfl (HC2.out 3 (cap-i)) ?_)
 go_ret
 exact⟨_,rfl,HD.out _ (by rw [<-List.append_assoc];rfl) rfl rfl rfl⟩
theorem ZgN (base n m vb:Nat)(v:Value)(ps:List WP)(r:WP)(w:World)(hnp:n=ps.length)(hm:m=1)(hbase:base<=w.heap.size)(hn:n<=1048576)(hrow:w.ownsRow base 48 3 v n (flat encW ps))
  (hvb:w.heap[vb]? = some (.cells (encW r).toArray 48 (0,0))) (hr1:∀ u∈encW r,u.oneCell'=true):∃ v' w',(∀ ty,(Builtin.append_ #[41,41] ty #[v,.slice (some ⟨vb,0,none⟩) m 1]).run Tryz.prog w=.ok v' w')/\w'.ownsRow base 48 3 v' (n+m) (flat encW (ps.take n++[r]++ps.drop n))/\w.grownBy w' v.ownBlock/\(v'.ownBlock=v.ownBlock\/v'.ownBlock=some w.heap.size):=by
 obtain⟨i0,hi0,hz0,hzs,hzb⟩:=info_parts Tryz.infoWay;obtain⟨a,c,hv⟩:=Zac hrow;obtain⟨v',w',h1,h2,h3,_,h4⟩:=run_append_own_at (P:=Tryz.prog) w base 41 41 48 i0 _ 3 i0.bytes Tryz.underlying41 hi0 hz0 hzs rfl rfl (by omega) v n (flat encW ps) hrow ⟨vb,0,none⟩ m 1 (encW r) (by rw [Zbd,hm]) (fun j u hj=>by
  rw [add8,Nat.zero_add,Zaa hvb]
  simpa using hj) hr1 (by unfold maxLen;omega) (by rw [hzb];omega) hbase
 refine⟨v',w',fun ty=>?_,?_,h3,h4⟩
 ·rw [hv,ZfP w 41 41 ty 48 i0 Tryz.underlying41 Tryz.underlying41 hi0, <-hv]
  exact h1
 ·rw [Zgr,hnp,List.take_length,List.drop_length]
  rw [hnp] at h2
  simpa [flat] using h2
theorem ZnL (base n m vb:Nat)(v:Value)(ps:List WP)(r:WP)(w:World)(hnp:n=ps.length)(hm:m=1)(hbase:base<=w.heap.size)(hn:n<=1048576)(hrow:w.ownsRow base 48 3 v n (flat encW ps))
  (hvb:w.heap[vb]? = some (.cells (encW r).toArray 48 (0,0))) (hr1:∀ u∈encW r,u.oneCell'=true):
  Calls Tryz.prog 81 #[v,.int .i64 (n:Int),.slice (some ⟨vb,0,none⟩) m 1] w fun e w'=>∃ v',e=.returned v'/\w'.ownsRow base 48 3 v' (n+m) (flat encW (ps.take n++[r]++ps.drop n))/\w.grownBy w' v.ownBlock/\(v'.ownBlock=v.ownBlock\/v'.ownBlock=some w.heap.size):=by
 obtain⟨v',w',h1,h2,h3,h4⟩:=ZgN base n m vb v ps r w hnp hm hbase hn hrow hvb hr1;obtain⟨va,vc,hve⟩:=Zac h2;subst hve;have HR:=hide h1;generalize ps.take n++[r]++ps.drop n=l at *;have H2:=hide h2;have H3:=hide h3;have H4:=hide h4;have hz1:¬((m:Int)=0):=by omega
 clear h1 h2 h3 h4 hvb hr1 hm hnp
 rcases hrow.2 with ⟨h0,hn0⟩ | ⟨g,cap,cur,hv,hbg,hg,hnc,hcm,hcs,htk⟩
 ·subst h0
  clear hrow;subst hn0
  go_enter Tryz.func81,Tryz.ntmps81
  go_wp2_with (at_builtin;refine Lib.wpList_append_run _ rfl _ _ _ _ rfl _ _ rfl rfl _ _ (HR.out _) ?_)
  go_ret
  exact⟨_,rfl,(by simpa using H2.out),H3.out,(by simpa [Value.ownBlock] using H4.out)⟩
 ·subst hv
  have hc63:cap<=9223372036854775807:=by unfold maxLen at hcm;omega
  clear hrow hg hcs htk
  go_enter Tryz.func81,Tryz.ntmps81
  go_wp2_with (at_builtin;refine Lib.wpList_append_run _ rfl _ _ _ _ rfl _ _ rfl rfl _ _ (HR.out _) ?_)
  all_goals (go_ret;exact⟨_,rfl,H2.out,H3.out,H4.out⟩)
theorem Zmk (base g cap n m i vb:Nat)(ps:List WP)(r:WP)(w:World)(hnp:n=ps.length)(hm:m=1)(hbase:base<=w.heap.size)(hn:n<=1048576)(hrow:w.ownsRow base 48 3 (.slice (some ⟨g,0,none⟩) n cap) n (flat encW ps))(hi:i<n)(hroom:cap<n+m)
  (hvb:w.heap[vb]? = some (.cells (encW r).toArray 48 (0,0))) (hone:∀ p∈ps,∃ a k c,p.2=.slice a k c) (hr1:∀ u∈encW r,u.oneCell'=true):
  Calls Tryz.prog 81 #[.slice (some ⟨g,0,none⟩) n cap,.int .i64 (i:Int),.slice (some ⟨vb,0,none⟩) m 1] w fun e w'=>∃ v,e=.returned v/\w'.ownsRow base 48 3 v (n+m) (flat encW (ps.take i++[r]++ps.drop i))/\w.grownBy w' (some g)/\(v.ownBlock=some g\/v.ownBlock=some w.heap.size):=by
 have hnl:(flat encW ps).length=n*3:=hrow.1;have hui:=Tryz.underlying41;have hus:=Tryz.underlying41;obtain⟨i0,hi0,hz0,hzs,hzb⟩:=info_parts Tryz.infoWay;have hsz:(Tryz.prog.info? 48).map (·.size)=some 3:=by rw [hi0];simp [hzs]
 rcases hrow.2 with ⟨h0,_⟩ | ⟨g',cap',cur,hv,hbg,hg,hnc,hcm,hcs,htk⟩
 ·simp at h0
 simp at hv
 obtain⟨rfl,rfl⟩:=hv;have hc63:cap<=9223372036854775807:=by unfold maxLen at hcm;omega
 have hgw:=Zab hg;have hvw:=Zab hvb;have hD:(flat encW (ps.drop i)).length=(n-i)*3:=by rw [ZaX Zbd,List.length_drop, <-hnp]
 have hAl:(flat encW (ps.take i)).length=i*3:=by rw [ZaX Zbd,List.length_take,Nat.min_eq_left (by omega)]
 have hRl:(encW r).length=3:=Zbd r;have hkk:(n:Int)+(m:Int)-(i:Int)=((n+m-i:Nat):Int):=by omega
 have hik:i+(n+m-i)=n+m:=by omega
 have hcellw:∀ (j:Nat) (u:Value),(flat encW ps)[j]? = some u->w.cell? ⟨g,j,none⟩=some u:=fun j u hj=>by
  have h2:j<n*3:=by rw [<-hnl];exact (List.getElem?_eq_some_iff.1 hj).1
  rw [<-htk,List.getElem?_take_of_lt h2] at hj;rw [Zaa hg]
  simpa using hj
 have hold:(Builtin.firstCells i0.size i (.slice (some ⟨g,0,none⟩) i cap)).run Tryz.prog w.drew=.ok (flat encW (ps.take i)).toArray w.drew:=by
  rw [hzs];exact run_firstCells_some w.drew 3 i ⟨g,0,none⟩ i cap (flat encW (ps.take i)) hAl (fun j v hj=>by
   rw [add8,Nat.zero_add];refine hcellw j v ?_
   rw [<-Zhf ps i (by omega),List.getElem?_take] at hj
   split at hj
   ·exact hj
   ·cases hj)
 have hrz0:=Lib.run_append_grow_zeros (P:=Tryz.prog) w 41 3 41 48 i0 _ .i64 .i64 hui Tryz.underlying3 hi0 hz0 (some ⟨g,0,none⟩) i cap (flat encW (ps.take i)) hold (n+m-i) (by omega) (by rw [hzs];omega) (by omega) (by omega) (by rw [hzb];omega) (by rw [hzb,hik];exact growslice_fits hroom (by omega))
 rw [hik] at hrz0;have hGn:=grownCap_ge w (n+m) cap 48;have hGm:=grownCap_le_maxLen w (n+m) cap 48 (by unfold maxLen;omega)
 obtain⟨G,hG⟩:∃ G,G=grownCap w (n+m) cap 48:=⟨_,rfl⟩;rw [<-hG] at hrz0 hGn hGm;obtain⟨ROW,hROW⟩:∃ ROW:Array Value,ROW=(flat encW (ps.take i)).toArray++Builtin.zeroCells (Value.agg (wayC Zbg (.slice none 0 0))).cells (n+m-i)++Builtin.zeroCells (Value.agg (wayC Zbg (.slice none 0 0))).cells (G-(n+m)):=⟨_,rfl⟩;rw [<-hROW] at hrz0;have hRs:ROW.size=G*3:=by
  rw [hROW];simp only [Array.size_append,List.size_toArray,size_zeroCells,hAl,show (Value.agg (wayC Zbg (.slice none 0 0))).cells.size=3 from rfl]
  omega
 have hRt:ROW.toList.take (i*3)=flat encW (ps.take i):=by
  rw [hROW];simp only [Array.toList_append,List.append_assoc]
  rw [<-hAl];exact List.take_left
 obtain⟨N,hN⟩:∃ N,N=w.heap.size:=⟨_,rfl⟩;obtain⟨W1,hW1⟩:∃ W1,W1=w.drew.alloc (.cells ROW 48):=⟨_,rfl⟩;rw [<-hW1, <-hN] at hrz0;have hrz:∀ ty,(Builtin.append_ #[41,3] ty #[.slice (some ⟨g,0,none⟩) i cap,.int .i64 ((n:Int)+(m:Int)-(i:Int))]).run Tryz.prog w=.ok (.slice (some ⟨N,0,none⟩) (n+m) G) W1:=fun ty=>by
  rw [hkk];exact hrz0
 have g1:W1.heap[N]? = some (.cells ROW 48 (0,0)):=by rw [hW1,hN];exact heap_alloc_new w.drew _
 have b1:∀ k,k<N->W1.heap[k]? = w.heap[k]? := fun k hk=>by rw [hW1];exact Below.heap_alloc _ _ _ (by rw [hN] at hk;exact hk)
 have s1:W1.heap.size=N+1:=by rw [hW1,hN];simp
 have hcpA:∀ ty dc,(Builtin.copy_ #[41,41] ty #[.slice (some ⟨N,i*3,none⟩) (n+m-i) dc,.slice (some ⟨vb,0,none⟩) m 1]).run Tryz.prog W1=.ok (goInt (Nat.min m (n+m-i))) (W1.setRow N (ROW.toList.take (i*3)++encW r++ROW.toList.drop (i*3+(encW r).length)).toArray):=fun ty dc=>
  Zbr W1 41 41 ty 48 N (i*3) (n+m-i) dc ⟨vb,0,none⟩ m 1 3 ROW 48 (encW r) hui hsz g1
   (by rw [hRl];have:Nat.min m (n+m-i)=m:=Nat.min_eq_left (by omega);omega) (fun j u hj=>by
    rw [add8,Nat.zero_add];simp only [World.cell?]
    rw [b1 vb (by omega),hvb]
    simpa using hj) (by rw [hRl,hRs];omega) hr1
 obtain⟨c1,hc1⟩:∃ c1,c1=ROW.toList.take (i*3)++encW r++ROW.toList.drop (i*3+(encW r).length):=⟨_,rfl⟩;rw [<-hc1] at hcpA;have hc1l:c1.length=G*3:=by
  rw [hc1];simp only [List.length_append,List.length_take,List.length_drop,Array.length_toList,hRs,hRl]
  omega
 have hc1t:c1.take ((i+m)*3)=flat encW (ps.take i)++encW r:=by
  rw [hc1,hRt];rw [List.take_append_of_le_length (by simp only [List.length_append,hAl,hRl];omega),List.take_of_length_le (by simp only [List.length_append,hAl,hRl];omega)]
 obtain⟨W2,hW2⟩:∃ W2,W2=W1.setRow N c1.toArray:=⟨_,rfl⟩;rw [<-hW2] at hcpA;have g2:W2.heap[N]? = some (.cells c1.toArray 48 (0,0)):=by rw [hW2];exact setRow_heap W1 N ROW _ 48 _ g1
 have b2:∀ k,k<N->W2.heap[k]? = w.heap[k]? := fun k hk=>by rw [hW2,setRow_other W1 N k _ (by omega)];exact b1 k hk
 have s2:W2.heap.size=N+1:=by rw [hW2];simpa using s1
 have hcpB0:=fun dc sc=>Zbr (P:=Tryz.prog) W2.drew 41 41 3 48 N ((i+m)*3) (n+m-(i+m)) dc ⟨g,i*3,none⟩ (n-i) sc 3 c1.toArray 48 (flat encW (ps.drop i)) hui hsz g2
   (by rw [hD];congr 1;have:Nat.min (n-i) (n+m-(i+m))=n-i:=Nat.min_eq_left (by omega);omega) (fun j u hj=>by
    rw [add8];have h2:=hcellw (i*3+j) u (by rw [<-Zhe ps i (by omega),List.getElem?_drop] at hj;exact hj)
    simp only [World.cell?] at h2 |-
    rw [show W2.drew.heap[g]? = w.heap[g]? from b2 g (by omega)]
    exact h2) (by rw [hD];simp only [List.size_toArray,hc1l];omega) (ZeY _ (fun p hp=>hone p (List.mem_of_mem_drop hp)))
 obtain⟨c2,hc2⟩:∃ c2,c2=c1.take ((i+m)*3)++flat encW (ps.drop i)++c1.drop ((i+m)*3+(flat encW (ps.drop i)).length):=⟨_,rfl⟩;simp only [<-hc2] at hcpB0
 obtain⟨W3,hW3⟩:∃ W3,W3=W2.drew.setRow N c2.toArray:=⟨_,rfl⟩;rw [<-hW3] at hcpB0;have g3:W3.heap[N]? = some (.cells c2.toArray 48 (0,0)):=by rw [hW3];exact setRow_heap W2.drew N c1.toArray _ 48 _ g2
 have b3:∀ k,k<N->W3.heap[k]? = w.heap[k]? := fun k hk=>by rw [hW3,setRow_other W2.drew N k _ (by omega)];exact b2 k hk
 have s3:W3.heap.size=N+1:=by rw [hW3];simpa using s2
 have hfin:W3.ownsRow base 48 3 (.slice (some ⟨N,0,none⟩) (n+m) G) (n+m) (flat encW (ps.take i++[r]++ps.drop i))/\w.grownBy W3 (some g):=by
  refine⟨⟨?_,.inr ⟨N,G,c2.toArray,rfl,by rw [hN];exact hbase,g3,hGn,hGm,?_,?_⟩⟩,⟨?_,?_,?_,by omega,fun k hk _=>b3 k (by omega)⟩⟩
  ·rw [ZaX Zbd,Zh1 ps r i (by omega)];omega
  ·rw [hc2,hc1t]
   simp only [List.size_toArray,List.length_append,List.length_drop,hc1l,hD,hRl,hAl]
   omega
  ·rw [Zgr,hc2,hc1t]
   exact ZcI (by rw [hAl,hRl,hD];omega)
  ·rw [hW3,hW2,hW1];rfl
  ·rw [hW3,hW2,hW1];rfl
  ·rw [hW3,hW2,hW1];rfl
 have hz1:¬((m:Int)=0):=by omega
 have hz2:¬((i:Int)=(n:Int)):=by omega
 have hz3:(cap:Int)<(n:Int)+(m:Int):=by omega
 have hw1:IntKind.i64.wrap ((i:Int)+(m:Int))=(i:Int)+(m:Int):=by rw [IntKind.wrap_i64];omega
 have hw2:IntKind.i64.wrap ((n:Int)+(m:Int))=(n:Int)+(m:Int):=by rw [IntKind.wrap_i64];omega
 have hw3:IntKind.i64.wrap ((n:Int)+(m:Int)-(i:Int))=(n:Int)+(m:Int)-(i:Int):=by rw [IntKind.wrap_i64];omega
 have hb1:(0:Int)<=(i:Int)+(m:Int):=by omega
 have hin:i<=n:=by omega
 have htn:((i:Int)+(m:Int)).toNat=i+m:=by omega
 have hb3:(i:Int)<=(n:Int):=by omega
 have hGi:¬(G=i):=by omega
 have hGim:¬(G=i+m):=by omega
 have hci:¬(cap=i):=by omega
 have hG63:G<=9223372036854775807:=by unfold maxLen at hGm;omega
 have HD:=hide hfin;have HNW:=hide hN;have HA:=hide hrz;have HC1:=hide hcpA;have HC2:=hide hcpB0;have mixed:Tryz.prog.follows .mixedOrders=true:=by kernel_rfl
 clear hfin hrz hcpA hcpB0 hrz0 g1 g2 g3 b1 b2 b3 s1 s2 s3 hW1 hW2 hW3 hc1 hc2 hc1l hc1t hROW hRs hRt hold hcellw hkk hik hN hG hGm hD hAl hRl hnl htk hcs hg hrow hvb hone hr1 hsz hi0 hz0 hzs hzb hm hnp
 go_enter Tryz.func81,Tryz.ntmps81
 go_wp2_with (first
  | (at_builtin;refine Lib.wpList_append_run _ rfl _ _ _ _ rfl _ _ rfl rfl _ _ (HA.out _) ?_)
  | (refine wpList_copy_runI _ rfl _ _ 41 41 rfl (.slice (some ⟨N,i*3,none⟩) (n+m-i) (G-i)) (.slice (some ⟨vb,0,none⟩) m 1) rfl rfl (HC1.out 3 (G-i)) ?_))
 go_region_law_o (refine step_copy_runI rfl _ _ 41 41 rfl (.slice (some ⟨N,(i+m)*3,none⟩) (n+m-(i+m)) (G-(i+m))) (.slice (some ⟨g,i*3,none⟩) (n-i) (cap-i)) (by simp [Act.eval,Act.put]) (by simp [Act.eval,Act.put]) (HC2.out (G-(i+m)) (cap-i)) ?_)
 go_wp2
 go_ret
 exact⟨_,rfl,HD.out.1,HD.out.2,.inr (by rw [<-HNW.out];rfl)⟩
def ltW (xs:List WayD)(r:WayD)(t:Nat):Prop:=∃ x,xs[t]? = some x/\x.to<r.to
theorem ZoJ {xs:List WayD}{r x:WayD}{t:Nat}(h:xs[t]? = some x):ltW xs r t↔x.to<r.to:=by
 constructor
 ·rintro ⟨y,hy,hl⟩
  rw [h] at hy;cases hy
  exact hl
 ·exact fun hl=>⟨x,h,hl⟩
theorem Zfa (v1 v2:Value)(x y:WayD)(w:World):Calls Tryz.prog 79 #[.agg (wayC x v1),.agg (wayC y v2)] w fun e w'=>e=.returned (.int .i64 (cmpN x.to y.to))/\Below w.heap.size w w':=by
 unfold wayC
 go_enter Tryz.func79,Tryz.ntmps79
 go_wp2_with fail
 refine (Zbt _ _ _).mono ?_
 rintro e w1 ⟨rfl,rfl⟩
 go_wp2
 go_ret
 exact⟨rfl,Za6 _ _⟩
theorem Zj3 (v:Value)(ps:List WP)(hi:Nat)(r:WP)(w:World)(hv:ZcP w v ps hi)(hhi:hi<=w.heap.size)(hn:ps.length<=1048576)(hr:∃ a c,r.2=.slice a r.1.hops.length c)(hmono:∀ s t,s<=t->t<ps.length->ltW (Zag ps) r.1 t->ltW (Zag ps) r.1 s):
  Calls Tryz.prog 78 #[v,.agg (wayC r.1 r.2),.func (.func 79) #[] #[]] w fun e w'=>∃ (i:Nat) (f:Bool),e=.returned (.tuple #[.int .i64 (i:Int),.bool f])/\i<=ps.length/\(∀ t,t<i->ltW (Zag ps) r.1 t)/\(∀ t,i<=t->t<ps.length->¬ltW (Zag ps) r.1 t)/\(f=true↔∃ x,(Zag ps)[i]? = some x/\x.to=r.1.to)/\Below w.heap.size w w':=by
 obtain⟨a1,c1,rfl⟩:=hv.shape;obtain⟨ra,rc,hrn⟩:=hr;have HRN:=hide hrn;have HV:=hide hv;have HM:=hide hmono;unfold wayC;rw [hrn];clear hv hrn hmono;have BX:Below w.heap.size w (w.alloc (.cells #[.int .i64 r.1.to,.int .i64 r.1.cost,.slice ra r.1.hops.length rc] 48)):=(Below.refl _ _).alloc (Nat.le_refl _) _;have hx:=heap_alloc_new w (.cells #[.int .i64 r.1.to,.int .i64 r.1.cost,.slice ra r.1.hops.length rc] 48);obtain⟨w0,hw0⟩:∃ w0,w0=w.alloc (.cells #[.int .i64 r.1.to,.int .i64 r.1.cost,.slice ra r.1.hops.length rc] 48):=⟨_,rfl⟩;rw [<-hw0] at BX hx;have hs0:=Zab hx;have HX:=hide hx;clear hx
 go_enter Tryz.func78,Tryz.ntmps78
 go_wp2
 rw [<-hw0];clear hw0
 go_loopw [9,10] (fun i j wr=>∃ (m n:Nat),m<=n/\n<=ps.length/\i=.int .i64 m/\j=.int .i64 n/\Hid (∀ t,t<m->ltW (Zag ps) r.1 t)/\Hid (∀ t,n<=t->t<ps.length->¬ltW (Zag ps) r.1 t)/\Below w0.heap.size w0 wr) (fun i j _=>(intOf j).toNat-(intOf i).toNat)
 case atStart=>exact ⟨0,ps.length,by omega,by omega,rfl,rfl,hide (by omega),hide (by omega),Below.refl _ _⟩
 case round=>
  obtain⟨m,n,hmn,hnp,rfl,rfl,HLO,HHI,hnx⟩:=hrel;have hsz:=hnx.size;have BWR:Below w.heap.size w wr:=BX.trans (hnx.mono (by omega))
  by_cases hlt:m<n
  ·have hmi:(m:Int)<(n:Int):=by omega
   have hw1:IntKind.i64.wrap ((m:Int)+(n:Int))=(m:Int)+(n:Int):=ZaO _ (by omega) (by omega)
   go_wp2
   obtain⟨k,hk⟩:∃ k:Nat,k=(m+n) / 2:=⟨_,rfl⟩;have hke:((m:Int)+(n:Int)) / 2=(k:Int):=by omega
   rw [hke];have hkm:m<=k:=by omega
   have hkn:k<n:=by omega
   have hki:(0:Int)<=(k:Int):=by omega
   have hkj:(k:Int)<(ps.length:Int):=by omega
   clear hk hke hw1;obtain⟨p,hp⟩:∃ p,ps[k]? = some p:=⟨ps[k],List.getElem?_eq_getElem (by omega)⟩
   obtain⟨b,off,cap',hve,hbb,c0,c1,c2,hnr⟩:=HV.out.cells k p hp;cases hve
   obtain⟨pa,pc,hpn⟩:=hnr.shape;rw [hpn] at c2;rw [<-BWR.cell (p:=⟨b,off+k*3,none⟩) (Nat.lt_of_lt_of_le hbb hhi)] at c0;rw [<-BWR.cell (p:=⟨b,off+k*3+1,none⟩) (Nat.lt_of_lt_of_le hbb hhi)] at c1;rw [<-BWR.cell (p:=⟨b,off+k*3+2,none⟩) (Nat.lt_of_lt_of_le hbb hhi)] at c2;have hxx:=(hnx.block _ (Zab HX.out)).trans HX.out;have d0:=Zaa hxx 0;have d1:=Zaa hxx 1;have d2:=Zaa hxx 2;simp at d0 d1 d2
   have hb1:b<wr.heap.size:=by omega
   have hb2:w.heap.size<wr.heap.size:=by omega
   have hq:=fun W=>Zfa p.2 r.2 p.1 r.1 W
   unfold wayC at hq;rw [hpn,HRN.out] at hq;obtain⟨x,hx⟩:∃ x,x=cmpN p.1.to r.1.to:=⟨_,rfl⟩;rw [<-hx] at hq;have HK:=hide hq;have HXV:=hide hx;have HPP:=hide (ZcH hp);clear hq hx hp hxx hnr hpn;by_cases hx0:x<0
   ·have HLO2:=hide (show ∀ t,t<k+1->ltW (Zag ps) r.1 t from fun t ht=>HM.out t k (by omega) (by omega) ((ZoJ HPP.out).2 (ZdA.1 (by rw [<-HXV.out];exact hx0))))
    go_region_held3 (fun W=>W.cell? ⟨b,off+k*3,none⟩=some (.int .i64 p.1.to)/\W.cell? ⟨b,off+k*3+1,none⟩=some (.int .i64 p.1.cost)/\W.cell? ⟨b,off+k*3+2,none⟩=some (.slice pa p.1.hops.length pc)/\W.cell? ⟨w.heap.size,0,none⟩=some (.int .i64 r.1.to)/\W.cell? ⟨w.heap.size,1,none⟩=some (.int .i64 r.1.cost)/\W.cell? ⟨w.heap.size,2,none⟩=some (.slice ra r.1.hops.length rc)) (first | go_keep | (refine ⟨?_,?_,?_,?_,?_,?_⟩ <;> (rw [hbc.cell (by assumption)];assumption))) (first | (go_at_call 79;refine (HK.out _).mono ?_;rintro e w1 ⟨rfl,hbc⟩))
    go_wp2
    go_roundw
    case rel=>exact ⟨k+1,n,by omega,by omega,by go_num,rfl,HLO2,HHI,hnx.trans ((Below.refl _ _).drew.trans (hbc.mono hsz))⟩
    case measure=>simp [intOf];omega
   ·have HHI2:=hide (show ∀ t,k<=t->t<ps.length->¬ltW (Zag ps) r.1 t from fun t h1 h2 h3=>hx0 (by rw [HXV.out];exact ZdA.2 ((ZoJ HPP.out).1 (HM.out k t h1 h2 h3))))
    go_region_held3 (fun W=>W.cell? ⟨b,off+k*3,none⟩=some (.int .i64 p.1.to)/\W.cell? ⟨b,off+k*3+1,none⟩=some (.int .i64 p.1.cost)/\W.cell? ⟨b,off+k*3+2,none⟩=some (.slice pa p.1.hops.length pc)/\W.cell? ⟨w.heap.size,0,none⟩=some (.int .i64 r.1.to)/\W.cell? ⟨w.heap.size,1,none⟩=some (.int .i64 r.1.cost)/\W.cell? ⟨w.heap.size,2,none⟩=some (.slice ra r.1.hops.length rc)) (first | go_keep | (refine ⟨?_,?_,?_,?_,?_,?_⟩ <;> (rw [hbc.cell (by assumption)];assumption))) (first | (go_at_call 79;refine (HK.out _).mono ?_;rintro e w1 ⟨rfl,hbc⟩))
    go_wp2
    go_roundw
    case rel=>exact ⟨m,k,by omega,by omega,rfl,rfl,HLO,HHI2,hnx.trans ((Below.refl _ _).drew.trans (hbc.mono hsz))⟩
    case measure=>simp [intOf];omega
  ·have hmn2:m=n:=by omega
   subst hmn2;by_cases hend:m<ps.length
   ·have hmi:(0:Int)<=(m:Int):=by omega
    have hmj:(m:Int)<(ps.length:Int):=by omega
    obtain⟨p,hp⟩:∃ p,ps[m]? = some p:=⟨ps[m],List.getElem?_eq_getElem (by omega)⟩
    obtain⟨b,off,cap',hve,hbb,c0,c1,c2,hnr⟩:=HV.out.cells m p hp;cases hve
    obtain⟨pa,pc,hpn⟩:=hnr.shape;rw [hpn] at c2;rw [<-BWR.cell (p:=⟨b,off+m*3,none⟩) (Nat.lt_of_lt_of_le hbb hhi)] at c0;rw [<-BWR.cell (p:=⟨b,off+m*3+1,none⟩) (Nat.lt_of_lt_of_le hbb hhi)] at c1;rw [<-BWR.cell (p:=⟨b,off+m*3+2,none⟩) (Nat.lt_of_lt_of_le hbb hhi)] at c2;have hxx:=(hnx.block _ (Zab HX.out)).trans HX.out;have d0:=Zaa hxx 0;have d1:=Zaa hxx 1;have d2:=Zaa hxx 2;simp at d0 d1 d2
    have hb1:b<wr.heap.size:=by omega
    have hb2:w.heap.size<wr.heap.size:=by omega
    have hq:=fun W=>Zfa p.2 r.2 p.1 r.1 W
    unfold wayC at hq;rw [hpn,HRN.out] at hq;obtain⟨x,hx⟩:∃ x,x=cmpN p.1.to r.1.to:=⟨_,rfl⟩;rw [<-hx] at hq;have HK:=hide hq;have HXV:=hide hx;have HPP:=hide (ZcH hp);clear hq hx hp hxx hnr hpn;have hfin:(x==0)=true↔∃ y,(Zag ps)[m]? = some y/\y.to=r.1.to:=by
     rw [HPP.out]
     constructor
     ·intro h
      exact⟨p.1,rfl,Zbc.1 (by rw [<-HXV.out];simpa using h)⟩
     ·rintro ⟨y,hy,he⟩
      cases hy
      rw [HXV.out]
      simpa using Zbc.2 he
    have HFIN:=hide hfin;clear hfin
    go_wp2
    go_region_held3 (fun W=>W.cell? ⟨b,off+m*3,none⟩=some (.int .i64 p.1.to)/\W.cell? ⟨b,off+m*3+1,none⟩=some (.int .i64 p.1.cost)/\W.cell? ⟨b,off+m*3+2,none⟩=some (.slice pa p.1.hops.length pc)/\W.cell? ⟨w.heap.size,0,none⟩=some (.int .i64 r.1.to)/\W.cell? ⟨w.heap.size,1,none⟩=some (.int .i64 r.1.cost)/\W.cell? ⟨w.heap.size,2,none⟩=some (.slice ra r.1.hops.length rc)) (first | go_keep | (refine ⟨?_,?_,?_,?_,?_,?_⟩ <;> (rw [hbc.cell (by assumption)];assumption))) (first | (go_at_call 79;refine (HK.out _).mono ?_;rintro e w1 ⟨rfl,hbc⟩))
    go_wp2
    go_returns
    exact⟨m,x==0,rfl,by omega,HLO.out,HHI.out,HFIN.out,BWR.trans ((Below.refl _ _).drew.trans (hbc.mono (show w.heap.size<=wr.heap.size by omega)))⟩
   ·have hme:¬(m:Int)<(ps.length:Int):=by omega
    have HNO:=hide (show (false=true↔∃ y,(Zag ps)[m]? = some y/\y.to=r.1.to) from ⟨(fun h=>by cases h),(fun ⟨y,hy,_⟩=>by rw [List.getElem?_eq_none (by simp [Zag];omega)] at hy;cases hy)⟩)
    go_wp2
    go_quiet (fail)
    go_wp2
    go_returns
    exact⟨m,false,rfl,by omega,HLO.out,HHI.out,HNO.out,BWR.trans ⟨rfl,rfl,rfl,Nat.le_refl _,fun _ _=>rfl⟩⟩
def ZfB:Array Oper:=#[{ dst:=some 14,op:=Op.move (Operand.tmp 0),type:=41,pos := "l07_route.go:51",after:=#[],guard:=none }, { dst:=some 15,op:=Op.move (Operand.tmp 5),type:=3,pos := "l07_route.go:51",after:=#[],guard:=none }, { dst:=some 16,op:=Op.move (Operand.tmp 0),type:=41,pos := "l07_route.go:51",after:=#[],guard:=none }, { dst:=some 17,op:=Op.move (Operand.tmp 5),type:=3,pos := "l07_route.go:51",after:=#[],guard:=none }, { dst:=some 18,op:=Op.indexAddr 41 (Operand.tmp 16) (Operand.tmp 17),type:=0,pos := "l07_route.go:51",after:=#[{ on:=2,ground:=Ground.data }, { on:=3,ground:=Ground.data }],guard:=none }, { dst:=some 19,op:=Op.load 48 (Operand.tmp 18),type:=48,pos := "l07_route.go:51",after:=#[{ on:=4,ground:=Ground.data }],guard:=none }, { dst:=some 20,op:=Op.load 48 (Operand.tmp 3),type:=48,pos := "l07_route.go:51",after:=#[],guard:=none }, { dst:=some 21,op:=Op.call { callee:=Callee.value (Operand.func 80),args:=#[Operand.tmp 19,Operand.tmp 20],argTypes:=#[48,48] },type:=48,pos := "l07_route.go:51",after:=#[{ on:=5,ground:=Ground.data }, { on:=6,ground:=Ground.data }],guard:=none }, { dst:=some 22,op:=Op.indexAddr 41 (Operand.tmp 14) (Operand.tmp 15),type:=0,pos := "l07_route.go:51",after:=#[{ on:=0,ground:=Ground.data }, { on:=1,ground:=Ground.data }, { on:=0,ground:=Ground.phase }, { on:=1,ground:=Ground.phase }, { on:=2,ground:=Ground.phase }, { on:=3,ground:=Ground.phase }, { on:=4,ground:=Ground.phase }, { on:=5,ground:=Ground.phase }, { on:=6,ground:=Ground.phase }, { on:=7,ground:=Ground.phase }],guard:=none }, { dst:=none,op:=Op.store 48 (Operand.tmp 22) (Operand.tmp 21),type:=0,pos := "l07_route.go:51",after:=#[{ on:=8,ground:=Ground.data }, { on:=7,ground:=Ground.data }, { on:=7,ground:=Ground.chain }, { on:=0,ground:=Ground.phase }, { on:=1,ground:=Ground.phase }, { on:=2,ground:=Ground.phase }, { on:=3,ground:=Ground.phase }, { on:=4,ground:=Ground.phase }, { on:=5,ground:=Ground.phase }, { on:=6,ground:=Ground.phase }, { on:=7,ground:=Ground.phase }],guard:=none }]
theorem Zoi (t1 t2 t4 t6 t7 t8 t9 t10 t11 t12 t13 t14 t15 t16 t17 t18 t19 t20 t21 t22 t23 t24 t25 t26 t27 t28:Value)(W0:World)(g n cap i zb:Nat)(x y q:WayD)(xa ya:Option Addr)(xl xc yl yc:Nat)(RR:World->Value->Prop)(Q:Exit->Act->World->Prop)(ops:Array Oper)(hops:Hid (ops=ZfB))(hpan:∀ c a1 a2 w,Q (.panic c) a1 w->Q (.panic c) a2 w)
  (hi0:(0:Int)<=(i:Int)) (hi:(i:Int)<(n:Int))
  (c0:W0.cell? ⟨g,i*3,none⟩=some (.int .i64 x.to)) (c1:W0.cell? ⟨g,i*3+1,none⟩=some (.int .i64 x.cost)) (c2:W0.cell? ⟨g,i*3+2,none⟩=some (.slice xa xl xc))
  (d0:W0.cell? ⟨zb,0,none⟩=some (.int .i64 y.to)) (d1:W0.cell? ⟨zb,1,none⟩=some (.int .i64 y.cost)) (d2:W0.cell? ⟨zb,2,none⟩=some (.slice ya yl yc))
  (HT:Hid (Calls Tryz.prog 80 #[.agg #[.int .i64 x.to,.int .i64 x.cost,.slice xa xl xc],.agg #[.int .i64 y.to,.int .i64 y.cost,.slice ya yl yc]] W0 fun e w'=>∃ ua ul uc,e=.returned (.agg #[.int .i64 q.to,.int .i64 q.cost,.slice ua ul uc])/\RR w' (.slice ua ul uc)))
  (hcell:∀ W u,RR W u->∃ y0 y1 y2,W.cell? ⟨g,i*3,none⟩=some y0/\W.cell? ⟨g,i*3+1,none⟩=some y1/\W.cell? ⟨g,i*3+2,none⟩=some y2)
  (hfz:∀ W u,RR W u->∀ j,W.frozen? ⟨g,j,none⟩=false)
  (hend:∀ (W:World) ua ul uc,RR W (.slice ua ul uc)->Q .normal { tmps:=#[.slice (some ⟨g,0,none⟩) n cap,t1,t2,.pointer (some ⟨zb,0,none⟩),t4,.int .i64 (i:Int),t6,t7,t8,t9,t10,t11,t12,t13,.slice (some ⟨g,0,none⟩) n cap,.int .i64 (i:Int),.slice (some ⟨g,0,none⟩) n cap,.int .i64 (i:Int),.pointer (some ⟨g,i*3,none⟩),.agg #[.int .i64 x.to,.int .i64 x.cost,.slice xa xl xc],.agg #[.int .i64 y.to,.int .i64 y.cost,.slice ya yl yc],.agg #[.int .i64 q.to,.int .i64 q.cost,.slice ua ul uc],.pointer (some ⟨g,i*3,none⟩),t23,t24,t25,t26,t27,t28],defers:=[] } (putW W g (i*3) (q,.slice ua ul uc))):
  wpAnyH Tryz.prog .any ops Q (fun _=>True) 10 (Array.replicate 10 false) { tmps:=#[.slice (some ⟨g,0,none⟩) n cap,t1,t2,.pointer (some ⟨zb,0,none⟩),t4,.int .i64 (i:Int),t6,t7,t8,t9,t10,t11,t12,t13,t14,t15,t16,t17,t18,t19,t20,t21,t22,t23,t24,t25,t26,t27,t28],defers:=[] } W0:=by
 have h7:∀ W ua ul uc,RR W (.slice ua ul uc)->wpAnyH Tryz.prog .any ops Q (fun _=>True) 2 #[true,true,true,true,true,true,true,true,false,false] { tmps:=#[.slice (some ⟨g,0,none⟩) n cap,t1,t2,.pointer (some ⟨zb,0,none⟩),t4,.int .i64 (i:Int),t6,t7,t8,t9,t10,t11,t12,t13,.slice (some ⟨g,0,none⟩) n cap,.int .i64 (i:Int),.slice (some ⟨g,0,none⟩) n cap,.int .i64 (i:Int),.pointer (some ⟨g,i*3,none⟩),.agg #[.int .i64 x.to,.int .i64 x.cost,.slice xa xl xc],.agg #[.int .i64 y.to,.int .i64 y.cost,.slice ya yl yc],.agg #[.int .i64 q.to,.int .i64 q.cost,.slice ua ul uc],t22,t23,t24,t25,t26,t27,t28],defers:=[] } W:=by
  intro W ua ul uc hr;obtain⟨y0,y1,y2,f0,f1,f2⟩:=hcell W _ hr;have fz:=hfz W _ hr;refine Za0 8 ?_ ?_ ?_ (by rw [hops.out];kernel_rfl) ?_ ?_ trivial ?_
  rotate_left 2
  ·rw [hops.out];unfold ZfB;simp only [getS];rfl
  ·intro W _;go_simp <;> with_reducible rfl
  ·exact fun c _ w h=>hpan c _ _ w h
  try simp only [putS]
  refine wpAnyH_ready (rs:=[9]) (by rw [hops.out];kernel_rfl) (by simp) ?_
  refine AllReadyH.cons (o:=?_) ?_ (fun K hK=>?_) ?_
  rotate_left 1
  ·rw [hops.out];unfold ZfB;simp only [getS];rfl
  ·rw [if_pos (by rfl)]
   go_simp
   refine hK.out _ _ trivial (fun _=>?_)
   refine wpAnyH_done (by rw [hops.out];kernel_rfl) ?_ _
   exact hend W ua ul uc hr
  exact AllReadyH.nil
 have h56:wpAnyH Tryz.prog .any ops Q (fun _=>True) 3 #[true,true,true,true,true,true,true,false,false,false] { tmps:=#[.slice (some ⟨g,0,none⟩) n cap,t1,t2,.pointer (some ⟨zb,0,none⟩),t4,.int .i64 (i:Int),t6,t7,t8,t9,t10,t11,t12,t13,.slice (some ⟨g,0,none⟩) n cap,.int .i64 (i:Int),.slice (some ⟨g,0,none⟩) n cap,.int .i64 (i:Int),.pointer (some ⟨g,i*3,none⟩),.agg #[.int .i64 x.to,.int .i64 x.cost,.slice xa xl xc],.agg #[.int .i64 y.to,.int .i64 y.cost,.slice ya yl yc],t21,t22,t23,t24,t25,t26,t27,t28],defers:=[] } W0:=by
  refine wpAnyH_ready (rs:=[7]) (by rw [hops.out];kernel_rfl) (by simp) ?_
  refine AllReadyH.cons (o:=?_) ?_ (fun K hK=>?_) ?_
  rotate_left 1
  ·rw [hops.out];unfold ZfB;simp only [getS];rfl
  ·rw [if_pos (by rfl)]
   go_simp
   refine HT.out.mono ?_
   rintro e w2 ⟨ua,ul,uc,rfl,hr⟩;refine hK.out _ _ trivial (fun _=>?_)
   exact h7 w2 ua ul uc hr
  exact AllReadyH.nil
 have h5:wpAnyH Tryz.prog .any ops Q (fun _=>True) 4 #[true,true,true,true,true,true,false,false,false,false] { tmps:=#[.slice (some ⟨g,0,none⟩) n cap,t1,t2,.pointer (some ⟨zb,0,none⟩),t4,.int .i64 (i:Int),t6,t7,t8,t9,t10,t11,t12,t13,.slice (some ⟨g,0,none⟩) n cap,.int .i64 (i:Int),.slice (some ⟨g,0,none⟩) n cap,.int .i64 (i:Int),.pointer (some ⟨g,i*3,none⟩),.agg #[.int .i64 x.to,.int .i64 x.cost,.slice xa xl xc],t20,t21,t22,t23,t24,t25,t26,t27,t28],defers:=[] } W0:=by
  refine wpAnyH_ready (rs:=[6]) (by rw [hops.out];kernel_rfl) (by simp) ?_
  refine AllReadyH.cons (o:=?_) ?_ (fun K hK=>?_) ?_
  rotate_left 1
  ·rw [hops.out];unfold ZfB;simp only [getS];rfl
  ·rw [if_pos (by rfl)]
   go_simp
   refine hK.out _ _ trivial (fun _=>?_)
   exact h56
  exact AllReadyH.nil
 have h6:wpAnyH Tryz.prog .any ops Q (fun _=>True) 4 #[true,true,true,true,true,false,true,false,false,false] { tmps:=#[.slice (some ⟨g,0,none⟩) n cap,t1,t2,.pointer (some ⟨zb,0,none⟩),t4,.int .i64 (i:Int),t6,t7,t8,t9,t10,t11,t12,t13,.slice (some ⟨g,0,none⟩) n cap,.int .i64 (i:Int),.slice (some ⟨g,0,none⟩) n cap,.int .i64 (i:Int),.pointer (some ⟨g,i*3,none⟩),t19,.agg #[.int .i64 y.to,.int .i64 y.cost,.slice ya yl yc],t21,t22,t23,t24,t25,t26,t27,t28],defers:=[] } W0:=by
  refine wpAnyH_ready (rs:=[5]) (by rw [hops.out];kernel_rfl) (by simp) ?_
  refine AllReadyH.cons (o:=?_) ?_ (fun K hK=>?_) ?_
  rotate_left 1
  ·rw [hops.out];unfold ZfB;simp only [getS];rfl
  ·rw [if_pos (by rfl)]
   go_simp
   refine hK.out _ _ trivial (fun _=>?_)
   exact h56
  exact AllReadyH.nil
 show wpAnyH Tryz.prog .any ops Q (fun _=>True) 10 #[false,false,false,false,false,false,false,false,false,false] _ W0
 refine Za0 0 ?_ ?_ ?_ (by rw [hops.out];kernel_rfl) ?_ ?_ trivial ?_
 rotate_left 2
 ·rw [hops.out];unfold ZfB;simp only [getS];rfl
 ·intro W _;go_simp <;> with_reducible rfl
 ·exact fun c _ w h=>hpan c _ _ w h
 try simp only [putS]
 refine Za0 1 ?_ ?_ ?_ (by rw [hops.out];kernel_rfl) ?_ ?_ trivial ?_
 rotate_left 2
 ·rw [hops.out];unfold ZfB;simp only [getS];rfl
 ·intro W _;go_simp <;> with_reducible rfl
 ·exact fun c _ w h=>hpan c _ _ w h
 try simp only [putS]
 refine Za0 2 ?_ ?_ ?_ (by rw [hops.out];kernel_rfl) ?_ ?_ trivial ?_
 rotate_left 2
 ·rw [hops.out];unfold ZfB;simp only [getS];rfl
 ·intro W _;go_simp <;> with_reducible rfl
 ·exact fun c _ w h=>hpan c _ _ w h
 try simp only [putS]
 refine Za0 3 ?_ ?_ ?_ (by rw [hops.out];kernel_rfl) ?_ ?_ trivial ?_
 rotate_left 2
 ·rw [hops.out];unfold ZfB;simp only [getS];rfl
 ·intro W _;go_simp <;> with_reducible rfl
 ·exact fun c _ w h=>hpan c _ _ w h
 try simp only [putS]
 refine Za0 4 ?_ ?_ ?_ (by rw [hops.out];kernel_rfl) ?_ ?_ trivial ?_
 rotate_left 2
 ·rw [hops.out];unfold ZfB;simp only [getS];rfl
 ·intro W _;go_simp <;> with_reducible rfl
 ·exact fun c _ w h=>hpan c _ _ w h
 try simp only [putS]
 refine wpAnyH_ready (rs:=[5,6]) (by rw [hops.out];kernel_rfl) (by simp) ?_
 refine AllReadyH.cons (o:=?_) ?_ (fun K hK=>?_) ?_
 rotate_left 1
 ·rw [hops.out];unfold ZfB;simp only [getS];rfl
 ·rw [if_pos (by rfl)]
  go_simp
  refine hK.out _ _ trivial (fun _=>?_)
  exact h5
 refine AllReadyH.cons (o:=?_) ?_ (fun K hK=>?_) ?_
 rotate_left 1
 ·rw [hops.out];unfold ZfB;simp only [getS];rfl
 ·rw [if_pos (by rfl)]
  go_simp
  refine hK.out _ _ trivial (fun _=>?_)
  exact h6
 exact AllReadyH.nil
end Go.Proofs.YtgdgkgmjpnbbcaaGreat
