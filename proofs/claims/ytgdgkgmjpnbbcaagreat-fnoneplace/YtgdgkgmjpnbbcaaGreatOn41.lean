/-
  InsC PutP PutI PutC
-/
import Derived.Test.YtgdgkgmjpnbbcaaGreatOn34
import Derived.Maps.AppendAt
import Derived.Test.YtgdgkgmjpnbbcaaGreatOn2
import Derived.Test.YtgdgkgmjpnbbcaaGreatOn7
namespace Go.Proofs.YtgdgkgmjpnbbcaaGreat
open Go.RowKit
set_option linter.unusedSimpArgs false
set_option linter.unusedVariables false
set_option maxRecDepth 100000
set_option maxHeartbeats 8000000
theorem Zk7 (base g cap n m i vb:Nat)(ps:List RP)(r:RP)(w:World)(hnp:n=ps.length)(hm:m=1)(hrow:w.ownsRow base 59 8 (.slice (some ⟨g,0,none⟩) n cap) n (flat encP ps))(hi:i<n)(hroom:n+m<=cap)
  (hvb:w.heap[vb]? = some (.cells (encP r).toArray 59 (0,0))) (hne:vb≠g) (hone:∀ p∈ps,∃ a k c,p.2=.slice a k c) (hr1:∀ u∈encP r,u.oneCell'=true):
  Calls Tryz.prog 64 #[.slice (some ⟨g,0,none⟩) n cap,.int .i64 (i:Int),.slice (some ⟨vb,0,none⟩) m 1] w fun e w'=>∃ v,e=.returned v/\w'.ownsRow base 59 8 v (n+m) (flat encP (ps.take i++[r]++ps.drop i))/\w.grownBy w' (some g)/\(v.ownBlock=some g\/v.ownBlock=some w.heap.size):=by
 have hnl:(flat encP ps).length=n*8:=hrow.1;have hui:=Tryz.underlying67;have hus:=Tryz.underlying33;obtain⟨i0,hi0,hz0,hzs,hzb⟩:=info_parts Tryz.infoRec;have hsz:(Tryz.prog.info? 59).map (·.size)=some 8:=by rw [hi0];simp [hzs]
 rcases hrow.2 with ⟨h0,_⟩ | ⟨g',cap',cur,hv,hbg,hg,hnc,hcm,hcs,htk⟩
 ·simp at h0
 simp at hv
 obtain⟨rfl,rfl⟩:=hv;have hmx:maxLen=9223372036854775807\/maxLen<=9223372036854775807:=by unfold maxLen;omega
 have hc63:cap<=9223372036854775807:=by omega
 have hD:(flat encP (ps.drop i)).length=(n-i)*8:=by rw [ZaX Zbb,List.length_drop, <-hnp]
 have hclen:cur.toList.length=cap*8:=by simpa using hcs
 have hRl:(encP r).length=8:=Zbb r;have hov:∀ lb cb,(callFunc 96 #[.slice (some ⟨vb,0,none⟩) m 1,.slice (some ⟨g,(i+m)*8,none⟩) lb cb]).run Tryz.prog w=.ok (.value (.bool false)) w:=fun lb cb=>by
  rw [run_callFunc_extern Tryz.func96 (by kernel_rfl) (by kernel_rfl) (by kernel_rfl) (e:=Extern.SlicesOverlaps.overlaps #[33,33] #[4]) (by kernel_rfl),
   Lib.run_overlaps_apart w 33 4 59 hus 8 (by intro w;simp [Go.sizeOf,typeInfo,hi0,hzs]) ⟨vb,0,none⟩ ⟨g,(i+m)*8,none⟩ m 1 lb cb hne 59 59 8 cur.size (by simp [World.shape?,hvb,hRl]) (by simp [World.shape?,hg]) (by omega) (Zae hvb 0) (Zae hvb 8)]
  rfl
 have hcell:∀ (W:World),W.heap=w.heap->∀ j u,(flat encP (ps.drop i))[j]? = some u->W.cell? ((⟨g,i*8,none⟩:Addr).add j)=some u:=fun W hW j u hj=>by
  rw [add8];simp only [World.cell?,hW,hg]
  rw [<-ZiK ps i (by omega), <-htk,List.getElem?_drop] at hj
  have h2:i*8+j<n*8:=by
   have h3:=(List.getElem?_eq_some_iff.1 hj).1;rw [List.length_take] at h3;omega
  rw [List.getElem?_take_of_lt h2] at hj
  simpa using hj
 have hcp1:∀ (W:World),W.heap=w.heap->∀ ty dc sc,(Builtin.copy_ #[67,67] ty #[.slice (some ⟨g,(i+m)*8,none⟩) (n+m-(i+m)) dc,.slice (some ⟨g,i*8,none⟩) (n+m-i) sc]).run Tryz.prog W=.ok (goInt (Nat.min (n+m-i) (n+m-(i+m)))) (W.setRow g (cur.toList.take ((i+m)*8)++flat encP (ps.drop i)++cur.toList.drop ((i+m)*8+(flat encP (ps.drop i)).length)).toArray):=fun W hW ty dc sc=>
  Zbr W 67 67 ty 59 g ((i+m)*8) (n+m-(i+m)) dc ⟨g,i*8,none⟩ (n+m-i) sc 8 cur 59 (flat encP (ps.drop i)) hui hsz (by rw [hW];exact hg)
   (by rw [hD];congr 1;have:Nat.min (n+m-i) (n+m-(i+m))=n+m-(i+m):=Nat.min_eq_right (by omega);omega) (hcell W hW) (by rw [hD];omega) (ZfT _ (fun p hp=>hone p (List.mem_of_mem_drop hp)))
 obtain⟨c1,hc1⟩:∃ c1,c1=cur.toList.take ((i+m)*8)++flat encP (ps.drop i)++cur.toList.drop ((i+m)*8+(flat encP (ps.drop i)).length):=⟨_,rfl⟩;rw [<-hc1] at hcp1;have hc1l:c1.length=cap*8:=by rw [hc1];simp only [List.length_append,List.length_take,List.length_drop,hclen,hD];omega
 have hcp2:∀ (W:World),W.heap=(w.setRow g c1.toArray).heap->∀ ty dc,(Builtin.copy_ #[67,33] ty #[.slice (some ⟨g,i*8,none⟩) (n+m-i) dc,.slice (some ⟨vb,0,none⟩) m 1]).run Tryz.prog W=.ok (goInt (Nat.min m (n+m-i))) (W.setRow g (c1.take (i*8)++encP r++c1.drop (i*8+(encP r).length)).toArray):=fun W hW ty dc=>by
  have h:=Zbr (P:=Tryz.prog) W 67 33 ty 59 g (i*8) (n+m-i) dc ⟨vb,0,none⟩ m 1 8 c1.toArray 59 (encP r) hui hsz (by rw [hW];exact setRow_heap w g cur _ 59 _ hg)
   (by rw [hRl];have:Nat.min m (n+m-i)=m:=Nat.min_eq_left (by omega);omega) (fun j u hj=>by
    rw [add8];simp only [World.cell?,hW]
    rw [setRow_other w g vb _ hne,hvb]
    simpa using hj) (by rw [hRl];simp only [List.size_toArray,hc1l];omega) hr1
  simpa using h
 have hfin:c1.take (i*8)++encP r++c1.drop (i*8+(encP r).length)=flat encP (ps.take i)++encP r++flat encP (ps.drop i)++cur.toList.drop (i*8+8+(n-i)*8):=by
  have h:=Zph cur.toList (flat encP (ps.drop i)) (encP r) (i*8) ((n-i)*8) hD hRl (by omega)
  rw [show i*8+8=(i+m)*8 by omega, <-hc1] at h
  rw [h]
  congr 3
  ·rw [<-ZiL ps i (by omega), <-htk,List.take_take,Nat.min_eq_left (by omega)]
  ·omega
 have hdone:∀ W:World,W.heap=((w.setRow g c1.toArray).setRow g (c1.take (i*8)++encP r++c1.drop (i*8+(encP r).length)).toArray).heap->W.os=w.os->W.tape=w.tape->W.output=w.output->W.ownsRow base 59 8 (.slice (some ⟨g,0,none⟩) (n+m) cap) (n+m) (flat encP (ps.take i++[r]++ps.drop i))/\w.grownBy W (some g)/\((Value.slice (some ⟨g,0,none⟩) (n+m) cap).ownBlock=some g\/(Value.slice (some ⟨g,0,none⟩) (n+m) cap).ownBlock=some w.heap.size):=by
  intro W hW h1 h2 h3;have hAl:(flat encP (ps.take i)).length=i*8:=by rw [ZaX Zbb,List.length_take,Nat.min_eq_left (by omega)]
  refine⟨⟨?_,.inr ⟨g,cap,(flat encP (ps.take i)++encP r++flat encP (ps.drop i)++cur.toList.drop (i*8+8+(n-i)*8)).toArray,rfl,hbg,?_,hroom,hcm,?_,?_⟩⟩,⟨h1,h2,h3,?_,?_⟩,.inl rfl⟩
  ·rw [ZaX Zbb,ZjK ps r i (by omega)];omega
  ·rw [hW,hfin]
   exact setRow_heap _ g c1.toArray _ 59 _ (setRow_heap w g cur _ 59 _ hg)
  ·simp only [List.size_toArray,List.length_append,List.length_drop,hclen,hD,hRl,hAl];omega
  ·rw [ZhW]
   exact ZcI (by rw [hAl,hRl,hD];omega)
  ·rw [hW];simp
  ·intro k _ hk
   have hkg:k≠g:=fun e=>hk (by rw [e])
   rw [hW,setRow_other _ g k _ hkg,setRow_other _ g k _ hkg]
 have hz1:¬((m:Int)=0):=by omega
 have hz2:¬((i:Int)=(n:Int)):=by omega
 have hw1:IntKind.i64.wrap ((i:Int)+(m:Int))=(i:Int)+(m:Int):=by rw [IntKind.wrap_i64];omega
 have hw2:IntKind.i64.wrap ((n:Int)+(m:Int))=(n:Int)+(m:Int):=by rw [IntKind.wrap_i64];omega
 have hb1:(0:Int)<=(i:Int)+(m:Int):=by omega
 have hin:i<=n:=by omega
 have htn:((i:Int)+(m:Int)).toNat=i+m:=by omega
 have htn2:((n:Int)+(m:Int)).toNat=n+m:=by omega
 have hb2:¬(cap=i+m):=by omega
 have hb3:(i:Int)<=(n:Int)+(m:Int):=by omega
 have hb4:¬(cap=i):=by omega
 have hb5:¬((cap:Int)<(n:Int)+(m:Int)):=by omega
 have HD:=hide hdone;have HC1:=hide (hcp1 w.drew rfl);have mixed:Tryz.prog.follows .mixedOrders=true:=by kernel_rfl
 have HC2:=hide (hcp2 (w.drew.setRow g c1.toArray) rfl);have HOV:=hide hov;clear hdone hcp1 hcp2 hfin hc1 hcell hD hclen hRl hnl hov hc1l htk hcs hg hrow hvb hone hr1 hmx hsz hi0 hz0 hzs hzb hm hnp
 go_enter Tryz.func64,Tryz.ntmps64
 go_wp2_with (simp only [HOV.out])
 go_region_law_o (refine step_copy_runI rfl _ _ 67 67 rfl (.slice (some ⟨g,(i+m)*8,none⟩) (n+m-(i+m)) (cap-(i+m))) (.slice (some ⟨g,i*8,none⟩) (n+m-i) (cap-i)) (by simp [Act.eval,Act.put]) (by simp [Act.eval,Act.put]) (HC1.out 3 (cap-(i+m)) (cap-i)) ?_)
 go_wp2_with (refine wpList_copy_runI _ rfl _ _ 67 33 rfl (.slice (some ⟨g,i*8,none⟩) (n+m-i) (cap-i)) (.slice (some ⟨vb,0,none⟩) m 1) rfl rfl (HC2.out 3 (cap-i)) ?_)
 go_ret
 exact⟨_,rfl,HD.out _ (by rw [<-List.append_assoc];rfl) rfl rfl rfl⟩
theorem ZgM (base n m vb:Nat)(v:Value)(ps:List RP)(r:RP)(w:World)(hnp:n=ps.length)(hm:m=1)(hbase:base<=w.heap.size)(hn:n<=1048576)(hrow:w.ownsRow base 59 8 v n (flat encP ps))
  (hvb:w.heap[vb]? = some (.cells (encP r).toArray 59 (0,0))) (hr1:∀ u∈encP r,u.oneCell'=true):∃ v' w',(∀ ty,(Builtin.append_ #[67,33] ty #[v,.slice (some ⟨vb,0,none⟩) m 1]).run Tryz.prog w=.ok v' w')/\w'.ownsRow base 59 8 v' (n+m) (flat encP (ps.take n++[r]++ps.drop n))/\w.grownBy w' v.ownBlock/\(v'.ownBlock=v.ownBlock\/v'.ownBlock=some w.heap.size):=by
 obtain⟨i0,hi0,hz0,hzs,hzb⟩:=info_parts Tryz.infoRec;obtain⟨a,c,hv⟩:=Zac hrow;obtain⟨v',w',h1,h2,h3,_,h4⟩:=run_append_own_at (P:=Tryz.prog) w base 67 67 59 i0 _ 8 i0.bytes Tryz.underlying67 hi0 hz0 hzs rfl rfl (by omega) v n (flat encP ps) hrow ⟨vb,0,none⟩ m 1 (encP r) (by rw [Zbb,hm]) (fun j u hj=>by
  rw [add8,Nat.zero_add,Zaa hvb]
  simpa using hj) hr1 (by unfold maxLen;omega) (by rw [hzb];omega) hbase
 refine⟨v',w',fun ty=>?_,?_,h3,h4⟩
 ·rw [hv,ZfP w 67 33 ty 59 i0 Tryz.underlying67 Tryz.underlying33 hi0, <-hv]
  exact h1
 ·rw [ZhW,hnp,List.take_length,List.drop_length]
  rw [hnp] at h2
  simpa [flat] using h2
theorem ZnK (base n m vb:Nat)(v:Value)(ps:List RP)(r:RP)(w:World)(hnp:n=ps.length)(hm:m=1)(hbase:base<=w.heap.size)(hn:n<=1048576)(hrow:w.ownsRow base 59 8 v n (flat encP ps))
  (hvb:w.heap[vb]? = some (.cells (encP r).toArray 59 (0,0))) (hr1:∀ u∈encP r,u.oneCell'=true):
  Calls Tryz.prog 64 #[v,.int .i64 (n:Int),.slice (some ⟨vb,0,none⟩) m 1] w fun e w'=>∃ v',e=.returned v'/\w'.ownsRow base 59 8 v' (n+m) (flat encP (ps.take n++[r]++ps.drop n))/\w.grownBy w' v.ownBlock/\(v'.ownBlock=v.ownBlock\/v'.ownBlock=some w.heap.size):=by
 obtain⟨v',w',h1,h2,h3,h4⟩:=ZgM base n m vb v ps r w hnp hm hbase hn hrow hvb hr1;obtain⟨va,vc,hve⟩:=Zac h2;subst hve;have HR:=hide h1;generalize ps.take n++[r]++ps.drop n=l at *;have H2:=hide h2;have H3:=hide h3;have H4:=hide h4;have hz1:¬((m:Int)=0):=by omega
 clear h1 h2 h3 h4 hvb hr1 hm hnp
 rcases hrow.2 with ⟨h0,hn0⟩ | ⟨g,cap,cur,hv,hbg,hg,hnc,hcm,hcs,htk⟩
 ·subst h0
  clear hrow;subst hn0
  go_enter Tryz.func64,Tryz.ntmps64
  go_wp2_with (at_builtin;refine Lib.wpList_append_run _ rfl _ _ _ _ rfl _ _ rfl rfl _ _ (HR.out _) ?_)
  go_ret
  exact⟨_,rfl,(by simpa using H2.out),H3.out,(by simpa [Value.ownBlock] using H4.out)⟩
 ·subst hv
  have hc63:cap<=9223372036854775807:=by unfold maxLen at hcm;omega
  clear hrow hg hcs htk
  go_enter Tryz.func64,Tryz.ntmps64
  go_wp2_with (at_builtin;refine Lib.wpList_append_run _ rfl _ _ _ _ rfl _ _ rfl rfl _ _ (HR.out _) ?_)
  all_goals (go_ret;exact⟨_,rfl,H2.out,H3.out,H4.out⟩)
theorem Zmj (base g cap n m i vb:Nat)(ps:List RP)(r:RP)(w:World)(hnp:n=ps.length)(hm:m=1)(hbase:base<=w.heap.size)(hn:n<=1048576)(hrow:w.ownsRow base 59 8 (.slice (some ⟨g,0,none⟩) n cap) n (flat encP ps))(hi:i<n)(hroom:cap<n+m)
  (hvb:w.heap[vb]? = some (.cells (encP r).toArray 59 (0,0))) (hone:∀ p∈ps,∃ a k c,p.2=.slice a k c) (hr1:∀ u∈encP r,u.oneCell'=true):
  Calls Tryz.prog 64 #[.slice (some ⟨g,0,none⟩) n cap,.int .i64 (i:Int),.slice (some ⟨vb,0,none⟩) m 1] w fun e w'=>∃ v,e=.returned v/\w'.ownsRow base 59 8 v (n+m) (flat encP (ps.take i++[r]++ps.drop i))/\w.grownBy w' (some g)/\(v.ownBlock=some g\/v.ownBlock=some w.heap.size):=by
 have hnl:(flat encP ps).length=n*8:=hrow.1;have hui:=Tryz.underlying67;have hus:=Tryz.underlying33;obtain⟨i0,hi0,hz0,hzs,hzb⟩:=info_parts Tryz.infoRec;have hsz:(Tryz.prog.info? 59).map (·.size)=some 8:=by rw [hi0];simp [hzs]
 rcases hrow.2 with ⟨h0,_⟩ | ⟨g',cap',cur,hv,hbg,hg,hnc,hcm,hcs,htk⟩
 ·simp at h0
 simp at hv
 obtain⟨rfl,rfl⟩:=hv;have hc63:cap<=9223372036854775807:=by unfold maxLen at hcm;omega
 have hgw:=Zab hg;have hvw:=Zab hvb;have hD:(flat encP (ps.drop i)).length=(n-i)*8:=by rw [ZaX Zbb,List.length_drop, <-hnp]
 have hAl:(flat encP (ps.take i)).length=i*8:=by rw [ZaX Zbb,List.length_take,Nat.min_eq_left (by omega)]
 have hRl:(encP r).length=8:=Zbb r;have hkk:(n:Int)+(m:Int)-(i:Int)=((n+m-i:Nat):Int):=by omega
 have hik:i+(n+m-i)=n+m:=by omega
 have hcellw:∀ (j:Nat) (u:Value),(flat encP ps)[j]? = some u->w.cell? ⟨g,j,none⟩=some u:=fun j u hj=>by
  have h2:j<n*8:=by rw [<-hnl];exact (List.getElem?_eq_some_iff.1 hj).1
  rw [<-htk,List.getElem?_take_of_lt h2] at hj;rw [Zaa hg]
  simpa using hj
 have hold:(Builtin.firstCells i0.size i (.slice (some ⟨g,0,none⟩) i cap)).run Tryz.prog w.drew=.ok (flat encP (ps.take i)).toArray w.drew:=by
  rw [hzs];exact run_firstCells_some w.drew 8 i ⟨g,0,none⟩ i cap (flat encP (ps.take i)) hAl (fun j v hj=>by
   rw [add8,Nat.zero_add];refine hcellw j v ?_
   rw [<-ZiL ps i (by omega),List.getElem?_take] at hj
   split at hj
   ·exact hj
   ·cases hj)
 have hrz0:=Lib.run_append_grow_zeros (P:=Tryz.prog) w 67 3 67 59 i0 _ .i64 .i64 hui Tryz.underlying3 hi0 hz0 (some ⟨g,0,none⟩) i cap (flat encP (ps.take i)) hold (n+m-i) (by omega) (by rw [hzs];omega) (by omega) (by omega) (by rw [hzb];omega) (by rw [hzb,hik];exact growslice_fits hroom (by omega))
 rw [hik] at hrz0;have hGn:=grownCap_ge w (n+m) cap 59;have hGm:=grownCap_le_maxLen w (n+m) cap 59 (by unfold maxLen;omega)
 obtain⟨G,hG⟩:∃ G,G=grownCap w (n+m) cap 59:=⟨_,rfl⟩;rw [<-hG] at hrz0 hGn hGm;obtain⟨ROW,hROW⟩:∃ ROW:Array Value,ROW=(flat encP (ps.take i)).toArray++Builtin.zeroCells (Value.agg (recC ZbM (.slice none 0 0))).cells (n+m-i)++Builtin.zeroCells (Value.agg (recC ZbM (.slice none 0 0))).cells (G-(n+m)):=⟨_,rfl⟩;rw [<-hROW] at hrz0;have hRs:ROW.size=G*8:=by
  rw [hROW];simp only [Array.size_append,List.size_toArray,size_zeroCells,hAl,show (Value.agg (recC ZbM (.slice none 0 0))).cells.size=8 from rfl]
  omega
 have hRt:ROW.toList.take (i*8)=flat encP (ps.take i):=by
  rw [hROW];simp only [Array.toList_append,List.append_assoc]
  rw [<-hAl];exact List.take_left
 obtain⟨N,hN⟩:∃ N,N=w.heap.size:=⟨_,rfl⟩;obtain⟨W1,hW1⟩:∃ W1,W1=w.drew.alloc (.cells ROW 59):=⟨_,rfl⟩;rw [<-hW1, <-hN] at hrz0;have hrz:∀ ty,(Builtin.append_ #[67,3] ty #[.slice (some ⟨g,0,none⟩) i cap,.int .i64 ((n:Int)+(m:Int)-(i:Int))]).run Tryz.prog w=.ok (.slice (some ⟨N,0,none⟩) (n+m) G) W1:=fun ty=>by
  rw [hkk];exact hrz0
 have g1:W1.heap[N]? = some (.cells ROW 59 (0,0)):=by rw [hW1,hN];exact heap_alloc_new w.drew _
 have b1:∀ k,k<N->W1.heap[k]? = w.heap[k]? := fun k hk=>by rw [hW1];exact Below.heap_alloc _ _ _ (by rw [hN] at hk;exact hk)
 have s1:W1.heap.size=N+1:=by rw [hW1,hN];simp
 have hcpA:∀ ty dc,(Builtin.copy_ #[67,33] ty #[.slice (some ⟨N,i*8,none⟩) (n+m-i) dc,.slice (some ⟨vb,0,none⟩) m 1]).run Tryz.prog W1=.ok (goInt (Nat.min m (n+m-i))) (W1.setRow N (ROW.toList.take (i*8)++encP r++ROW.toList.drop (i*8+(encP r).length)).toArray):=fun ty dc=>
  Zbr W1 67 33 ty 59 N (i*8) (n+m-i) dc ⟨vb,0,none⟩ m 1 8 ROW 59 (encP r) hui hsz g1
   (by rw [hRl];have:Nat.min m (n+m-i)=m:=Nat.min_eq_left (by omega);omega) (fun j u hj=>by
    rw [add8,Nat.zero_add];simp only [World.cell?]
    rw [b1 vb (by omega),hvb]
    simpa using hj) (by rw [hRl,hRs];omega) hr1
 obtain⟨c1,hc1⟩:∃ c1,c1=ROW.toList.take (i*8)++encP r++ROW.toList.drop (i*8+(encP r).length):=⟨_,rfl⟩;rw [<-hc1] at hcpA;have hc1l:c1.length=G*8:=by
  rw [hc1];simp only [List.length_append,List.length_take,List.length_drop,Array.length_toList,hRs,hRl]
  omega
 have hc1t:c1.take ((i+m)*8)=flat encP (ps.take i)++encP r:=by
  rw [hc1,hRt];rw [List.take_append_of_le_length (by simp only [List.length_append,hAl,hRl];omega),List.take_of_length_le (by simp only [List.length_append,hAl,hRl];omega)]
 obtain⟨W2,hW2⟩:∃ W2,W2=W1.setRow N c1.toArray:=⟨_,rfl⟩;rw [<-hW2] at hcpA;have g2:W2.heap[N]? = some (.cells c1.toArray 59 (0,0)):=by rw [hW2];exact setRow_heap W1 N ROW _ 59 _ g1
 have b2:∀ k,k<N->W2.heap[k]? = w.heap[k]? := fun k hk=>by rw [hW2,setRow_other W1 N k _ (by omega)];exact b1 k hk
 have s2:W2.heap.size=N+1:=by rw [hW2];simpa using s1
 have hcpB0:=fun dc sc=>Zbr (P:=Tryz.prog) W2.drew 67 67 3 59 N ((i+m)*8) (n+m-(i+m)) dc ⟨g,i*8,none⟩ (n-i) sc 8 c1.toArray 59 (flat encP (ps.drop i)) hui hsz g2
   (by rw [hD];congr 1;have:Nat.min (n-i) (n+m-(i+m))=n-i:=Nat.min_eq_left (by omega);omega) (fun j u hj=>by
    rw [add8];have h2:=hcellw (i*8+j) u (by rw [<-ZiK ps i (by omega),List.getElem?_drop] at hj;exact hj)
    simp only [World.cell?] at h2 |-
    rw [show W2.drew.heap[g]? = w.heap[g]? from b2 g (by omega)]
    exact h2) (by rw [hD];simp only [List.size_toArray,hc1l];omega) (ZfT _ (fun p hp=>hone p (List.mem_of_mem_drop hp)))
 obtain⟨c2,hc2⟩:∃ c2,c2=c1.take ((i+m)*8)++flat encP (ps.drop i)++c1.drop ((i+m)*8+(flat encP (ps.drop i)).length):=⟨_,rfl⟩;simp only [<-hc2] at hcpB0
 obtain⟨W3,hW3⟩:∃ W3,W3=W2.drew.setRow N c2.toArray:=⟨_,rfl⟩;rw [<-hW3] at hcpB0;have g3:W3.heap[N]? = some (.cells c2.toArray 59 (0,0)):=by rw [hW3];exact setRow_heap W2.drew N c1.toArray _ 59 _ g2
 have b3:∀ k,k<N->W3.heap[k]? = w.heap[k]? := fun k hk=>by rw [hW3,setRow_other W2.drew N k _ (by omega)];exact b2 k hk
 have s3:W3.heap.size=N+1:=by rw [hW3];simpa using s2
 have hfin:W3.ownsRow base 59 8 (.slice (some ⟨N,0,none⟩) (n+m) G) (n+m) (flat encP (ps.take i++[r]++ps.drop i))/\w.grownBy W3 (some g):=by
  refine⟨⟨?_,.inr ⟨N,G,c2.toArray,rfl,by rw [hN];exact hbase,g3,hGn,hGm,?_,?_⟩⟩,⟨?_,?_,?_,by omega,fun k hk _=>b3 k (by omega)⟩⟩
  ·rw [ZaX Zbb,ZjK ps r i (by omega)];omega
  ·rw [hc2,hc1t]
   simp only [List.size_toArray,List.length_append,List.length_drop,hc1l,hD,hRl,hAl]
   omega
  ·rw [ZhW,hc2,hc1t]
   exact ZcI (by rw [hAl,hRl,hD];omega)
  ·rw [hW3,hW2,hW1];rfl
  ·rw [hW3,hW2,hW1];rfl
  ·rw [hW3,hW2,hW1];rfl
 have hz1:¬((m:Int)=0):=by omega
 have hz2:¬((i:Int)=(n:Int)):=by omega
 have hz3:(cap:Int)<(n:Int)+(m:Int):=by omega
 have hw1:IntKind.i64.wrap ((i:Int)+(m:Int))=(i:Int)+(m:Int):=by rw [IntKind.wrap_i64];omega
 have hw2:IntKind.i64.wrap ((n:Int)+(m:Int))=(n:Int)+(m:Int):=by rw [IntKind.wrap_i64];omega
 have hw3:IntKind.i64.wrap ((n:Int)+(m:Int)-(i:Int))=(n:Int)+(m:Int)-(i:Int):=by rw [IntKind.wrap_i64];omega
 have hb1:(0:Int)<=(i:Int)+(m:Int):=by omega
 have hin:i<=n:=by omega
 have htn:((i:Int)+(m:Int)).toNat=i+m:=by omega
 have hb3:(i:Int)<=(n:Int):=by omega
 have hGi:¬(G=i):=by omega
 have hGim:¬(G=i+m):=by omega
 have hci:¬(cap=i):=by omega
 have hG63:G<=9223372036854775807:=by unfold maxLen at hGm;omega
 have HD:=hide hfin;have HNW:=hide hN;have HA:=hide hrz;have HC1:=hide hcpA;have HC2:=hide hcpB0;have mixed:Tryz.prog.follows .mixedOrders=true:=by kernel_rfl
 clear hfin hrz hcpA hcpB0 hrz0 g1 g2 g3 b1 b2 b3 s1 s2 s3 hW1 hW2 hW3 hc1 hc2 hc1l hc1t hROW hRs hRt hold hcellw hkk hik hN hG hGm hD hAl hRl hnl htk hcs hg hrow hvb hone hr1 hsz hi0 hz0 hzs hzb hm hnp
 go_enter Tryz.func64,Tryz.ntmps64
 go_wp2_with (first
  | (at_builtin;refine Lib.wpList_append_run _ rfl _ _ _ _ rfl _ _ rfl rfl _ _ (HA.out _) ?_)
  | (refine wpList_copy_runI _ rfl _ _ 67 33 rfl (.slice (some ⟨N,i*8,none⟩) (n+m-i) (G-i)) (.slice (some ⟨vb,0,none⟩) m 1) rfl rfl (HC1.out 3 (G-i)) ?_))
 go_region_law_o (refine step_copy_runI rfl _ _ 67 67 rfl (.slice (some ⟨N,(i+m)*8,none⟩) (n+m-(i+m)) (G-(i+m))) (.slice (some ⟨g,i*8,none⟩) (n-i) (cap-i)) (by simp [Act.eval,Act.put]) (by simp [Act.eval,Act.put]) (HC2.out (G-(i+m)) (cap-i)) ?_)
 go_wp2
 go_ret
 exact⟨_,rfl,HD.out.1,HD.out.2,.inr (by rw [<-HNW.out];rfl)⟩
theorem ZfZ.symm {p q:RP}(h:ZfZ p q):ZfZ q p:=fun k hk hp=>h k hp hk
theorem Zho {W W2:World}{lo:Nat}{v:Value}{ps:List RP}(h:RecsOwn W lo W.heap.size v ps)(hg:W.grownBy W2 v.ownBlock){q:RP}(hq:ZaJ W lo W.heap.size q):ZaJ W2 lo W2.heap.size q:=
 ⟨Zao hq.1 (fun j hj=>hg.block j (hq.2 j hj) (ZeB hq h.row j hj)),fun k hk=>Nat.lt_of_lt_of_le (hq.2 k hk) hg.size⟩
theorem RecsOwn.put {W:World}{lo i g cap n:Nat}{ps:List RP}{r:RP}(h:RecsOwn W lo W.heap.size (.slice (some ⟨g,0,none⟩) n cap) ps)(hn:n=ps.length)(hr:ZaJ W lo W.heap.size r)(hap:∀ p∈ps,ZfZ p r)(hi:i<ps.length):RecsOwn (putP W g (i*8) r) lo (putP W g (i*8) r).heap.size (.slice (some ⟨g,0,none⟩) n cap) (ps.set i r):=by
 subst hn;have hst:=ZmP (p:=r) h.row hi;have hg:W.grownBy (putP W g (i*8) r) (Value.slice (some ⟨g,0,none⟩) ps.length cap).ownBlock:=Zht W g (i*8) r;refine⟨by simpa using hst,fun k hk=>(hst.lt k hk).2,?_,?_⟩
 ·intro q hq
  refine Zho h hg ?_
  rcases List.mem_or_eq_of_mem_set hq with h1 | h1
  ·exact h.nears q h1
  ·subst h1;exact hr
 ·have hp:=h.apart
  rw [List.pairwise_iff_getElem] at hp |-;intro a b ha hb hab;simp only [List.length_set] at ha hb
  rw [List.getElem_set,List.getElem_set];by_cases e1:i=a
  ·rw [if_pos e1,if_neg (by omega)]
   exact (hap _ (List.getElem_mem hb)).symm
  ·rw [if_neg e1]
   by_cases e2:i=b
   ·rw [if_pos e2]
    exact hap _ (List.getElem_mem ha)
   ·rw [if_neg e2]
    exact hp a b ha hb hab
theorem ZnB (ps:List RP)(r:RP)(i:Nat):fsts (ps.take i++[r]++ps.drop i)=(fsts ps).take i++[r.1]++(fsts ps).drop i:=by simp [fsts]
theorem ZnC (ps:List RP)(r:RP)(i:Nat):fsts (ps.set i r)=(fsts ps).set i r.1:=by simp [fsts,List.map_set]
theorem ZnT {W:World}{lo hi:Nat}{r:RP}(h:ZaJ W lo hi r):∀ u∈encP r,u.oneCell'=true:=by
 obtain⟨a,c,e⟩:=Zac h.1;obtain⟨x,v⟩:=r;simp only at e
 subst e;exact Zca x a _ c
theorem RecsOwn.ins {W W2:World}{lo i:Nat}{v v':Value}{ps:List RP}{r:RP}(h:RecsOwn W lo W.heap.size v ps)(hr:ZaJ W lo W.heap.size r)(hap:∀ p∈ps,ZfZ p r)(hi:i<=ps.length)
  (row:W2.ownsRow lo 59 8 v' (ps.length+1) (flat encP (ps.take i++[r]++ps.drop i))) (hg:W.grownBy W2 v.ownBlock):RecsOwn W2 lo W2.heap.size v' (ps.take i++[r]++ps.drop i) where
 row:=by rw [ZjK ps r i hi];exact row
 top:=fun k hk=>(row.lt k hk).2
 nears:=by
  intro q hq;refine Zho h hg ?_
  rcases List.mem_append.1 hq with h1 | h1
  ·rcases List.mem_append.1 h1 with h2 | h2
   ·exact h.nears q (List.mem_of_mem_take h2)
   ·have:q=r:=by simpa using h2
    subst this;exact hr
  ·exact h.nears q (List.mem_of_mem_drop h1)
 apart:=by
  have hp:=h.apart;rw [<-List.take_append_drop i ps,List.pairwise_append] at hp;rw [List.append_assoc,List.pairwise_append];refine⟨hp.1,?_,?_⟩
  ·rw [List.pairwise_append]
   refine⟨by simp,hp.2.1,?_⟩
   intro a ha b hb;have:a=r:=by simpa using ha
   subst this;exact (hap b (List.mem_of_mem_drop hb)).symm
  ·intro a ha b hb
   rcases List.mem_append.1 hb with h1 | h1
   ·have:b=r:=by simpa using h1
    subst this;exact hap a (List.mem_of_mem_take ha)
   ·exact hp.2.2 a ha b h1
theorem ZfR {B:Nat}{w W:World}(h:Below B w W)(hB:w.heap.size<=B)(row:Option Nat):w.grownBy W row:=⟨h.os,h.tape,h.output,h.size,fun k hk _=>h.block k (by omega)⟩
theorem ZjL (lo i vb:Nat)(v:Value)(ps:List RP)(r:RP)(w:World)(hv:RecsOwn w lo w.heap.size v ps)(hlo:lo<=w.heap.size)(hi:i<=ps.length)(hn:ps.length<=1048576)(hvb:w.heap[vb]? = some (.cells (encP r).toArray 59 (0,0)))(hne:some vb≠v.ownBlock)(hr1:∀ u∈encP r,u.oneCell'=true):
  Calls Tryz.prog 64 #[v,.int .i64 (i:Int),.slice (some ⟨vb,0,none⟩) 1 1] w fun e w'=>∃ v',e=.returned v'/\w'.ownsRow lo 59 8 v' (ps.length+1) (flat encP (ps.take i++[r]++ps.drop i))/\w.grownBy w' v.ownBlock/\(v'.ownBlock=v.ownBlock\/v'.ownBlock=some w.heap.size):=by
 by_cases he:i=ps.length
 ·rw [he]
  exact ZnK lo ps.length 1 vb v ps r w rfl rfl hlo hn hv.row hvb hr1
 ·have hone:∀ p∈ps,∃ a k c,p.2=.slice a k c:=fun p hp=>by
   obtain⟨a,c,e⟩:=Zac (hv.nears p hp).1;exact⟨a,_,c,e⟩
  rcases hv.row.2 with ⟨_,h0⟩ | ⟨g,cap,cur,hve,_⟩
  ·omega
  ·subst hve
   have hne2:vb≠g:=fun e=>hne (by rw [e];rfl)
   by_cases hroom:ps.length+1<=cap
   ·exact Zk7 lo g cap ps.length 1 i vb ps r w rfl rfl hv.row (by omega) hroom hvb hne2 hone hr1
   ·exact Zmj lo g cap ps.length 1 i vb ps r w rfl rfl hlo hn hv.row (by omega) (by omega) hvb hone hr1
theorem Zml (v:Value)(ps:List RP)(lo:Nat)(r:RP)(w:World)(hv:RecsOwn w lo w.heap.size v ps)(hlo:lo<=w.heap.size)(hn:tot ps<=1048576)(hasc:Asc (fsts ps))(hr:ZaJ w lo w.heap.size r)(hap:∀ p∈ps,ZfZ p r):
  Calls Tryz.prog 26 #[v,.agg (recC r.1 r.2)] w fun e w'=>∃ x qs,e=.returned x/\fsts qs=putD (fsts ps) r.1/\RecsOwn w' lo w'.heap.size x qs/\(∀ k,x.ownBlock=some k->v.ownBlock=some k\/w.heap.size<=k)/\w.grownBy w' v.ownBlock:=by
 have hnl:=ZbI ps;have hfl:(fsts ps).length=ps.length:=by simp [fsts]
 obtain⟨a1,vc,hve⟩:=Zac hv.row;obtain⟨ra,rc,hrn⟩:=Zac hr.1;have BX:Below w.heap.size w (w.alloc (.cells #[.int .i64 r.1.area,.int .i64 r.1.kind,.int .i64 r.1.owner,.int .i64 r.1.key,.int .i64 r.1.seq,.slice ra r.1.near.length rc,.int .i64 r.1.cost,.bool r.1.far] 59)):=(Below.refl _ _).alloc (Nat.le_refl _) _;have hx:=heap_alloc_new w (.cells #[.int .i64 r.1.area,.int .i64 r.1.kind,.int .i64 r.1.owner,.int .i64 r.1.key,.int .i64 r.1.seq,.slice ra r.1.near.length rc,.int .i64 r.1.cost,.bool r.1.far] 59);obtain⟨w0,hw0⟩:∃ w0,w0=w.alloc (.cells #[.int .i64 r.1.area,.int .i64 r.1.kind,.int .i64 r.1.owner,.int .i64 r.1.key,.int .i64 r.1.seq,.slice ra r.1.near.length rc,.int .i64 r.1.cost,.bool r.1.far] 59):=⟨_,rfl⟩;rw [<-hw0] at BX hx;have hs0:=Zab hx;have hv0:=hv.below BX (Nat.le_refl _);have hr0:=hr.keep (W':=w0) (fun k _ _ h3=>BX.block k h3)
 have HS:=Zlt v ps w.heap.size r w0 hv0.in BX.size hn (hr0.wide (Nat.zero_le _) (Nat.le_refl _)) (by rw [<-hfl];exact Znm hasc r.1)
 have d0:=Zaa hx 0;have d1:=Zaa hx 1;have d2:=Zaa hx 2;have d3:=Zaa hx 3;have d4:=Zaa hx 4;have d5:=Zaa hx 5;have d6:=Zaa hx 6;have d7:=Zaa hx 7;simp at d0 d1 d2 d3 d4 d5 d6 d7
 have HV:=hide hv0;have HR:=hide hr0;have HA:=hide hasc;have HP:=hide hap;have H1:=hide hr;have HFL:=hide hfl;have HRN:=hide hrn;have HVE:=hide hve;unfold recC at *;rw [hrn] at HS |-;subst hve;have HSS:=hide HS;clear HS hv0 hr0 hasc hap hr hrn hv hfl
 go_enter Tryz.func26,Tryz.ntmps26
 go_wp2_with fail
 rw [<-hw0];clear hw0;refine HSS.out.mono ?_
 rintro e w1 ⟨i,f,rfl,hil,q1,q2,q3,b1⟩;have b1s:=b1.size;have hx1:=(b1.block _ hs0).trans hx;have B1:Below w.heap.size w w1:=BX.trans (b1.mono BX.size);have hv1:=(HV.out.below b1 (by omega)).wide (Nat.le_refl _) (show w.heap.size<=w1.heap.size by omega)
 have hr1:=((HR.out).keep (W':=w1) (fun k _ _ h3=>b1.block k h3)).wide (Nat.le_refl _) (show w.heap.size<=w1.heap.size by omega)
 have Q1:=hide q1;have Q2:=hide q2;have Q3:=hide q3;clear q1 q2 q3 d0 d1 d2 d3 d4 d5 d6 d7 hx b1;have d0:=Zaa hx1 0;have d1:=Zaa hx1 1;have d2:=Zaa hx1 2;have d3:=Zaa hx1 3;have d4:=Zaa hx1 4;have d5:=Zaa hx1 5;have d6:=Zaa hx1 6;have d7:=Zaa hx1 7;simp at d0 d1 d2 d3 d4 d5 d6 d7
 have hii:(0:Int)<=(i:Int):=by omega
 cases f with
 | true=>
  have hil2:i<ps.length:=by
   obtain⟨x,hx,_⟩:=Q3.out.1 rfl;have:=(List.getElem?_eq_some_iff.1 hx).1;rw [HFL.out] at this;exact this
  have hij:(i:Int)<(ps.length:Int):=by omega
  rcases hv1.row.2 with ⟨_,h0⟩ | ⟨g,cap,cur,hve,_⟩
  ·omega
  ·cases hve
   have hpr:r=(r.1,.slice ra r.1.near.length rc):=by rw [<-HRN.out]
   have hfin:=hv1.put (i:=i) rfl hr1 HP.out hil2;have hg:=Zht w1 g (i*8) r;have hgl:=hv1.row.lt g rfl;have hB:=Zai (ZfR B1 (Nat.le_refl _) (some g)) hg;have hl:fsts (ps.set i r)=putD (fsts ps) r.1:=by
    obtain⟨x,hx,h0⟩:=Q3.out.1 rfl;obtain⟨hi2,ex⟩:=List.getElem?_eq_some_iff.1 hx;rw [ZnC,Zof HA.out hi2 Q1.out (by rw [HFL.out];exact Q2.out) (by rw [ex];exact h0)]
   obtain⟨y0,f0⟩:=ZbZ hv1.row (i*8) (by omega)
   obtain⟨y1,f1⟩:=ZbZ hv1.row (i*8+1) (by omega)
   obtain⟨y2,f2⟩:=ZbZ hv1.row (i*8+2) (by omega)
   obtain⟨y3,f3⟩:=ZbZ hv1.row (i*8+3) (by omega)
   obtain⟨y4,f4⟩:=ZbZ hv1.row (i*8+4) (by omega)
   obtain⟨y5,f5⟩:=ZbZ hv1.row (i*8+5) (by omega)
   obtain⟨y6,f6⟩:=ZbZ hv1.row (i*8+6) (by omega)
   obtain⟨y7,f7⟩:=ZbZ hv1.row (i*8+7) (by omega)
   have fz:=fun j=>hv1.row.frozenAt j
   have hne:g≠w.heap.size:=by
    intro e;have h5:=HV.out.top g rfl;omega
   rw [hpr] at hfin hB hl;have HF:=hide hfin;have HB:=hide hB;have HL:=hide hl;clear hfin hB hl hpr hg hv1 hr1
   go_wp2
   go_ret
   first
    | exact ⟨_,ps.set i (r.1,.slice ra r.1.near.length rc),rfl,HL.out,HF.out,fun k hk=>.inl hk,HB.out⟩
    | exact ⟨_,rfl,ps.set i (r.1,.slice ra r.1.near.length rc),HL.out,HF.out,fun k hk=>.inl hk,HB.out⟩
 | false=>
  have hl:fsts (ps.take i++[r]++ps.drop i)=putD (fsts ps) r.1:=by
   rw [ZnB,Zoe HA.out (by rw [HFL.out];exact hil) Q1.out (by rw [HFL.out];exact Q2.out) (fun h=>by have:=Q3.out.2 h;cases this)]
  have HL:=hide hl;clear hl;have BY:Below w1.heap.size w1 (w1.alloc (.cells #[.int .i64 r.1.area,.int .i64 r.1.kind,.int .i64 r.1.owner,.int .i64 r.1.key,.int .i64 r.1.seq,.slice ra r.1.near.length rc,.int .i64 r.1.cost,.bool r.1.far] 59)):=(Below.refl _ _).alloc (Nat.le_refl _) _;have hy:=heap_alloc_new w1 (.cells #[.int .i64 r.1.area,.int .i64 r.1.kind,.int .i64 r.1.owner,.int .i64 r.1.key,.int .i64 r.1.seq,.slice ra r.1.near.length rc,.int .i64 r.1.cost,.bool r.1.far] 59);obtain⟨w2,hw2⟩:∃ w2,w2=w1.alloc (.cells #[.int .i64 r.1.area,.int .i64 r.1.kind,.int .i64 r.1.owner,.int .i64 r.1.key,.int .i64 r.1.seq,.slice ra r.1.near.length rc,.int .i64 r.1.cost,.bool r.1.far] 59):=⟨_,rfl⟩;rw [<-hw2] at BY hy;have hv2:=(hv1.below BY (Nat.le_refl _)).wide (Nat.le_refl _) BY.size;have hr2:=(hr1.keep (W':=w2) (fun k _ _ h3=>BY.block k h3)).wide (Nat.le_refl _) BY.size
  have HI:=ZjL lo i w1.heap.size _ ps r w2 hv2 (by have:=BY.size;omega) hil (by omega) (by
   rw [hy];unfold encP;rw [HRN.out]) (fun e=>by
    have h6:=hv1.top _ e.symm;omega) (ZnT hr2)
  have HII:=hide HI;have HV2:=hide hv2;have HR2:=hide hr2;have B2:Below w.heap.size w w2:=B1.trans (BY.mono (by omega))
  have hb2:=BY.size;clear HI hv1 hr1 hv2 hr2
  go_wp2_with fail
  rw [<-hw2];clear hw2;refine HII.out.mono ?_
  rintro e w3 ⟨x,rfl,hrow,hg,hblk⟩;have hfin:=HV2.out.ins HR2.out HP.out hil hrow hg;have hB:=Zai (ZfR B2 (Nat.le_refl _) _) hg;have hbk:∀ k,x.ownBlock=some k->(Value.slice a1 ps.length vc).ownBlock=some k\/w.heap.size<=k:=fun k hk=>by
   rcases hblk with h1 | h1
   ·exact .inl (by rw [<-h1];exact hk)
   ·right
    rw [h1] at hk;cases hk
    omega
  have HBK:=hide hbk;clear hbk hblk;obtain⟨xa,xc,rfl⟩:=Zac hrow;have HF:=hide hfin;have HB:=hide hB;clear hfin hB hrow hg
  go_wp2
  go_ret
  first
   | exact ⟨_,_,rfl,HL.out,HF.out,HBK.out,HB.out⟩
   | exact ⟨_,rfl,_,HL.out,HF.out,HBK.out,HB.out⟩
end Go.Proofs.YtgdgkgmjpnbbcaaGreat
