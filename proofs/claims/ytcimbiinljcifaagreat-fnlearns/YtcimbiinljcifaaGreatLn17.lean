/-
  InsB StoreI
-/
import Derived.Test.YtcimbiinljcifaaGreatLn16
import Derived.Test.YtcimbiinljcifaaGreatLn7
import Derived.Test.YtcimbiinljcifaaGreatLn8
import Derived.Test.YtcimbiinljcifaaGreatLn12
namespace Go.Proofs.YtcimbiinljcifaaGreat
open Go.RowKit
set_option linter.unusedSimpArgs false
set_option linter.unusedVariables false
set_option maxRecDepth 100000
set_option maxHeartbeats 8000000
theorem add8 (g o j:Nat):(⟨g,o,none⟩:Addr).add j=⟨g,o+j,none⟩:=by
 simp only [Addr.add]
 split <;> simp_all
def Zex (w w':World)(row:Option Nat)(v:Value):Prop:=w.grownBy w' row/\∀ k,v.ownBlock=some k->row=some k\/w.heap.size<=k
theorem ZfS {P:Program}(w:World)(base:Nat)(t ty e:TypeId)(i:TypeInfo)(z:Value)(ht:P.underlying t=some (.slice e))(hi:P.info? e=some i)(hz:i.zero=some z)
  (v:Value) (n:Nat) (xs:List Value) (hown:w.ownsRow base e i.size v n xs) (a:Addr) (m c:Nat) (news:List Value) (hl:news.length=m*i.size) (hnews:∀ j u,news[j]? = some u->w.cell? (a.add j)=some u) (h1:∀ u∈news,u.oneCell'=true)
  (hm:0<m) (h63:n+m<=maxLen) (hbytes:(n+m)*i.bytes<=140737488355328) {v':Value} {w':World} (hr:(Builtin.append_ #[t,t] ty #[v,.slice (some a) m c]).run P w=.ok v' w'):∀ k,v'.ownBlock=some k->v.ownBlock=some k\/w.heap.size<=k:=by
 have hsmall:n+m<=9223372036854775807:=by simp only [maxLen] at h63;omega
 intro k hk
 rcases hown.2 with ⟨rfl,rfl⟩ | ⟨g,cap,cur,rfl,hbg,hg,hnc,hcm,hcs,htake⟩
 ·have h2:=run_append_nil (P:=P) w t ty e i z ht hi hz a m c news hl hnews (by omega) (by omega) (by have hb:=hbytes;simp only [Nat.zero_add] at hb;omega)
  rw [h2] at hr;cases hr
  simp [Value.ownBlock] at hk
  exact .inr (by omega)
 ·by_cases hroom:n+m<=cap
  ·have hfit:n*i.size+news.length<=cur.size:=by rw [hl,hcs, <-Nat.add_mul];exact Nat.mul_le_mul_right _ hroom
   have h2:=run_append_room (P:=P) w t ty e i ht hi g n cap cur hg a m c news hl hnews h1 hroom hfit;rw [h2] at hr;cases hr
   exact .inl hk
  ·have h2:=run_append_grow (P:=P) w t ty e i z ht hi hz ⟨g,0,none⟩ n cap xs hown.1 (hown.cells (g:=g) rfl) a m c news hl hnews (by omega) (by omega) (growslice_fits (by omega) hbytes)
   rw [h2] at hr;cases hr
   simp [Value.ownBlock] at hk
   exact .inr (by omega)
theorem Zj9 (base g cap n m i vb:Nat)(ps:List RP)(r:RP)(w:World)(hnp:n=ps.length)(hm:m=1)(hrow:w.ownsRow base 40 8 (.slice (some ⟨g,0,none⟩) n cap) n (flat encP ps))(hi:i<n)(hroom:n+m<=cap)
  (hvb:w.heap[vb]? = some (.cells (encP r).toArray 40 (0,0))) (hne:vb≠g) (hone:∀ p∈ps,∃ a k c,p.2=.slice a k c) (hr1:∀ u∈encP r,u.oneCell'=true):
  Calls Tryz.prog 107 #[.slice (some ⟨g,0,none⟩) n cap,.int .i64 (i:Int),.slice (some ⟨vb,0,none⟩) m 1] w fun e w'=>∃ v,e=.returned v/\w'.ownsRow base 40 8 v (n+m) (flat encP (ps.take i++[r]++ps.drop i))/\Zex w w' (some g) v:=by
 have hnl:(flat encP ps).length=n*8:=hrow.1;have hui:=Tryz.underlying64;have hus:=Tryz.underlying29;obtain⟨i0,hi0,hz0,hzs,hzb⟩:=info_parts Tryz.infoRec;have hsz:(Tryz.prog.info? 40).map (·.size)=some 8:=by rw [hi0];simp [hzs]
 rcases hrow.2 with ⟨h0,_⟩ | ⟨g',cap',cur,hv,hbg,hg,hnc,hcm,hcs,htk⟩
 ·simp at h0
 simp at hv
 obtain⟨rfl,rfl⟩:=hv;have hmx:maxLen=9223372036854775807\/maxLen<=9223372036854775807:=by unfold maxLen;omega
 have hc63:cap<=9223372036854775807:=by omega
 have hD:(flat encP (ps.drop i)).length=(n-i)*8:=by rw [Zbt ZaK,List.length_drop, <-hnp]
 have hclen:cur.toList.length=cap*8:=by simpa using hcs
 have hRl:(encP r).length=8:=ZaK r;have hov:∀ lb cb,(callFunc 133 #[.slice (some ⟨vb,0,none⟩) m 1,.slice (some ⟨g,(i+m)*8,none⟩) lb cb]).run Tryz.prog w=.ok (.value (.bool false)) w:=fun lb cb=>by
  rw [run_callFunc_extern Tryz.func133 (by kernel_rfl) (by kernel_rfl) (by kernel_rfl) (e:=Extern.SlicesOverlaps.overlaps #[29,29] #[4]) (by kernel_rfl),
   Lib.run_overlaps_apart w 29 4 40 hus 8 (by intro w;simp [Go.sizeOf,typeInfo,hi0,hzs]) ⟨vb,0,none⟩ ⟨g,(i+m)*8,none⟩ m 1 lb cb hne 40 40 8 cur.size (by simp [World.shape?,hvb,hRl]) (by simp [World.shape?,hg]) (by omega) (Zae hvb 0) (Zae hvb 8)]
  rfl
 have hcell:∀ (W:World),W.heap=w.heap->∀ j u,(flat encP (ps.drop i))[j]? = some u->W.cell? ((⟨g,i*8,none⟩:Addr).add j)=some u:=fun W hW j u hj=>by
  rw [add8];simp only [World.cell?,hW,hg]
  rw [<-Zhn ps i (by omega), <-htk,List.getElem?_drop] at hj
  have h2:i*8+j<n*8:=by
   have h3:=(List.getElem?_eq_some_iff.1 hj).1;rw [List.length_take] at h3;omega
  rw [List.getElem?_take_of_lt h2] at hj
  simpa using hj
 have hcp1:∀ (W:World),W.heap=w.heap->∀ ty dc sc,(Builtin.copy_ #[64,64] ty #[.slice (some ⟨g,(i+m)*8,none⟩) (n+m-(i+m)) dc,.slice (some ⟨g,i*8,none⟩) (n+m-i) sc]).run Tryz.prog W=.ok (goInt (Nat.min (n+m-i) (n+m-(i+m)))) (W.setRow g (cur.toList.take ((i+m)*8)++flat encP (ps.drop i)++cur.toList.drop ((i+m)*8+(flat encP (ps.drop i)).length)).toArray):=fun W hW ty dc sc=>
  Zcf W 64 64 ty 40 g ((i+m)*8) (n+m-(i+m)) dc ⟨g,i*8,none⟩ (n+m-i) sc 8 cur 40 (flat encP (ps.drop i)) hui hsz (by rw [hW];exact hg)
   (by rw [hD];congr 1;have:Nat.min (n+m-i) (n+m-(i+m))=n+m-(i+m):=Nat.min_eq_right (by omega);omega) (hcell W hW) (by rw [hD];omega) (ZeA _ (fun p hp=>hone p (List.mem_of_mem_drop hp)))
 obtain⟨c1,hc1⟩:∃ c1,c1=cur.toList.take ((i+m)*8)++flat encP (ps.drop i)++cur.toList.drop ((i+m)*8+(flat encP (ps.drop i)).length):=⟨_,rfl⟩;rw [<-hc1] at hcp1;have hc1l:c1.length=cap*8:=by rw [hc1];simp only [List.length_append,List.length_take,List.length_drop,hclen,hD];omega
 have hcp2:∀ (W:World),W.heap=(w.setRow g c1.toArray).heap->∀ ty dc,(Builtin.copy_ #[64,29] ty #[.slice (some ⟨g,i*8,none⟩) (n+m-i) dc,.slice (some ⟨vb,0,none⟩) m 1]).run Tryz.prog W=.ok (goInt (Nat.min m (n+m-i))) (W.setRow g (c1.take (i*8)++encP r++c1.drop (i*8+(encP r).length)).toArray):=fun W hW ty dc=>by
  have h:=Zcf (P:=Tryz.prog) W 64 29 ty 40 g (i*8) (n+m-i) dc ⟨vb,0,none⟩ m 1 8 c1.toArray 40 (encP r) hui hsz (by rw [hW];exact setRow_heap w g cur _ 40 _ hg)
   (by rw [hRl];have:Nat.min m (n+m-i)=m:=Nat.min_eq_left (by omega);omega) (fun j u hj=>by
    rw [add8];simp only [World.cell?,hW]
    rw [setRow_other w g vb _ hne,hvb]
    simpa using hj) (by rw [hRl];simp only [List.size_toArray,hc1l];omega) hr1
  simpa using h
 have hfin:c1.take (i*8)++encP r++c1.drop (i*8+(encP r).length)=flat encP (ps.take i)++encP r++flat encP (ps.drop i)++cur.toList.drop (i*8+8+(n-i)*8):=by
  have h:=Zmq cur.toList (flat encP (ps.drop i)) (encP r) (i*8) ((n-i)*8) hD hRl (by omega)
  rw [show i*8+8=(i+m)*8 by omega, <-hc1] at h
  rw [h]
  congr 3
  ·rw [<-Zho ps i (by omega), <-htk,List.take_take,Nat.min_eq_left (by omega)]
  ·omega
 have hdone:∀ W:World,W.heap=((w.setRow g c1.toArray).setRow g (c1.take (i*8)++encP r++c1.drop (i*8+(encP r).length)).toArray).heap->W.os=w.os->W.tape=w.tape->W.output=w.output->W.ownsRow base 40 8 (.slice (some ⟨g,0,none⟩) (n+m) cap) (n+m) (flat encP (ps.take i++[r]++ps.drop i))/\Zex w W (some g) (.slice (some ⟨g,0,none⟩) (n+m) cap):=by
  intro W hW h1 h2 h3;have hAl:(flat encP (ps.take i)).length=i*8:=by rw [Zbt ZaK,List.length_take,Nat.min_eq_left (by omega)]
  refine⟨⟨?_,.inr ⟨g,cap,(flat encP (ps.take i)++encP r++flat encP (ps.drop i)++cur.toList.drop (i*8+8+(n-i)*8)).toArray,rfl,hbg,?_,hroom,hcm,?_,?_⟩⟩,⟨⟨h1,h2,h3,?_,?_⟩,fun k hk=>.inl hk⟩⟩
  ·rw [Zbt ZaK,Zh8 ps r i (by omega)];omega
  ·rw [hW,hfin]
   exact setRow_heap _ g c1.toArray _ 40 _ (setRow_heap w g cur _ 40 _ hg)
  ·simp only [List.size_toArray,List.length_append,List.length_drop,hclen,hD,hRl,hAl];omega
  ·rw [ZgK]
   exact Zea (by rw [hAl,hRl,hD];omega)
  ·rw [hW];simp
  ·intro k _ hk
   have hkg:k≠g:=fun e=>hk (by rw [e])
   rw [hW,setRow_other _ g k _ hkg,setRow_other _ g k _ hkg]
 have hz1:¬((m:Int)=0):=by omega
 have hz2:¬((i:Int)=(n:Int)):=by omega
 have hw1:IntKind.i64.wrap ((i:Int)+(m:Int))=(i:Int)+(m:Int):=by rw [IntKind.wrap_i64];omega
 have hw2:IntKind.i64.wrap ((n:Int)+(m:Int))=(n:Int)+(m:Int):=by rw [IntKind.wrap_i64];omega
 have hb1:(0:Int)<=(i:Int)+(m:Int):=by omega
 have hin:i<=n:=by omega
 have htn:((i:Int)+(m:Int)).toNat=i+m:=by omega
 have htn2:((n:Int)+(m:Int)).toNat=n+m:=by omega
 have hb2:¬(cap=i+m):=by omega
 have hb3:(i:Int)<=(n:Int)+(m:Int):=by omega
 have hb4:¬(cap=i):=by omega
 have hb5:¬((cap:Int)<(n:Int)+(m:Int)):=by omega
 have HD:=hide hdone;have HC1:=hide (hcp1 w.drew rfl);have mixed:Tryz.prog.follows .mixedOrders=true:=by kernel_rfl
 have HC2:=hide (hcp2 (w.drew.setRow g c1.toArray) rfl);have HOV:=hide hov;clear hdone hcp1 hcp2 hfin hc1 hcell hD hclen hRl hnl hov hc1l htk hcs hg hrow hvb hone hr1 hmx hsz hi0 hz0 hzs hzb hm hnp
 go_enter Tryz.func107,Tryz.ntmps107
 go_wp2_with (simp only [HOV.out])
 go_region_law_o (refine step_copy_runI rfl _ _ 64 64 rfl (.slice (some ⟨g,(i+m)*8,none⟩) (n+m-(i+m)) (cap-(i+m))) (.slice (some ⟨g,i*8,none⟩) (n+m-i) (cap-i)) (by simp [Act.eval,Act.put]) (by simp [Act.eval,Act.put]) (HC1.out 3 (cap-(i+m)) (cap-i)) ?_)
 go_wp2_with (refine wpList_copy_runI _ rfl _ _ 64 29 rfl (.slice (some ⟨g,i*8,none⟩) (n+m-i) (cap-i)) (.slice (some ⟨vb,0,none⟩) m 1) rfl rfl (HC2.out 3 (cap-i)) ?_)
 go_ret
 exact⟨_,rfl,HD.out _ (by rw [<-List.append_assoc];rfl) rfl rfl rfl⟩
theorem ZfM (base n m vb:Nat)(v:Value)(ps:List RP)(r:RP)(w:World)(hnp:n=ps.length)(hm:m=1)(hbase:base<=w.heap.size)(hn:n<=1048576)(hrow:w.ownsRow base 40 8 v n (flat encP ps))
  (hvb:w.heap[vb]? = some (.cells (encP r).toArray 40 (0,0))) (hr1:∀ u∈encP r,u.oneCell'=true):∃ v' w',(∀ ty,(Builtin.append_ #[64,29] ty #[v,.slice (some ⟨vb,0,none⟩) m 1]).run Tryz.prog w=.ok v' w')/\w'.ownsRow base 40 8 v' (n+m) (flat encP (ps.take n++[r]++ps.drop n))/\Zex w w' v.ownBlock v':=by
 obtain⟨i0,hi0,hz0,hzs,hzb⟩:=info_parts Tryz.infoRec;obtain⟨a,c,hv⟩:=Zac hrow;obtain⟨v',w',h1,h2,h3,_⟩:=run_append_own (P:=Tryz.prog) w base 64 64 40 i0 _ 8 i0.bytes Tryz.underlying64 hi0 hz0 hzs rfl rfl (by omega) v n (flat encP ps) hrow ⟨vb,0,none⟩ m 1 (encP r) (by rw [ZaK,hm]) (fun j u hj=>by
  rw [add8,Nat.zero_add,Zaa hvb]
  simpa using hj) hr1 (by unfold maxLen;omega) (by rw [hzb];omega) hbase
 refine⟨v',w',fun ty=>?_,?_,h3,?_⟩
 ·rw [hv,Zg8 w 64 29 ty 40 i0 Tryz.underlying64 Tryz.underlying29 hi0, <-hv]
  exact h1
 ·rw [ZgK,hnp,List.take_length,List.drop_length]
  rw [hnp] at h2
  simpa [flat] using h2
 ·refine ZfS (P:=Tryz.prog) w base 64 64 40 i0 _ Tryz.underlying64 hi0 hz0 v n (flat encP ps) (by rw [hzs];exact hrow) ⟨vb,0,none⟩ m 1 (encP r) (by rw [ZaK,hm,hzs]) (fun j u hj=>by
   rw [add8,Nat.zero_add,Zaa hvb]
   simpa using hj) hr1 (by omega) (by unfold maxLen;omega) (by rw [hzb];omega) h1
theorem Zmh (base n m vb:Nat)(v:Value)(ps:List RP)(r:RP)(w:World)(hnp:n=ps.length)(hm:m=1)(hbase:base<=w.heap.size)(hn:n<=1048576)(hrow:w.ownsRow base 40 8 v n (flat encP ps))
  (hvb:w.heap[vb]? = some (.cells (encP r).toArray 40 (0,0))) (hr1:∀ u∈encP r,u.oneCell'=true):
  Calls Tryz.prog 107 #[v,.int .i64 (n:Int),.slice (some ⟨vb,0,none⟩) m 1] w fun e w'=>∃ v',e=.returned v'/\w'.ownsRow base 40 8 v' (n+m) (flat encP (ps.take n++[r]++ps.drop n))/\Zex w w' v.ownBlock v':=by
 obtain⟨v',w',h1,h2,h3⟩:=ZfM base n m vb v ps r w hnp hm hbase hn hrow hvb hr1;obtain⟨va,vc,hve⟩:=Zac h2;subst hve;have HR:=hide h1;generalize ps.take n++[r]++ps.drop n=l at *;have H2:=hide h2;have H3:=hide h3;have hz1:¬((m:Int)=0):=by omega
 clear h1 h2 h3 hvb hr1 hm hnp
 rcases hrow.2 with ⟨h0,hn0⟩ | ⟨g,cap,cur,hv,hbg,hg,hnc,hcm,hcs,htk⟩
 ·subst h0
  clear hrow;subst hn0
  go_enter Tryz.func107,Tryz.ntmps107
  go_wp2_with (at_builtin;refine Lib.wpList_append_run _ rfl _ _ _ _ rfl _ _ rfl rfl _ _ (HR.out _) ?_)
  go_ret
  exact⟨_,rfl,(by simpa using H2.out),by simpa using H3.out⟩
 ·subst hv
  have hc63:cap<=9223372036854775807:=by unfold maxLen at hcm;omega
  clear hrow hg hcs htk
  go_enter Tryz.func107,Tryz.ntmps107
  go_wp2_with (at_builtin;refine Lib.wpList_append_run _ rfl _ _ _ _ rfl _ _ rfl rfl _ _ (HR.out _) ?_)
  all_goals (go_ret;exact⟨_,rfl,H2.out,H3.out⟩)
theorem Zk8 (base g cap n m i vb:Nat)(ps:List RP)(r:RP)(w:World)(hnp:n=ps.length)(hm:m=1)(hbase:base<=w.heap.size)(hn:n<=1048576)(hrow:w.ownsRow base 40 8 (.slice (some ⟨g,0,none⟩) n cap) n (flat encP ps))(hi:i<n)(hroom:cap<n+m)
  (hvb:w.heap[vb]? = some (.cells (encP r).toArray 40 (0,0))) (hone:∀ p∈ps,∃ a k c,p.2=.slice a k c) (hr1:∀ u∈encP r,u.oneCell'=true):
  Calls Tryz.prog 107 #[.slice (some ⟨g,0,none⟩) n cap,.int .i64 (i:Int),.slice (some ⟨vb,0,none⟩) m 1] w fun e w'=>∃ v,e=.returned v/\w'.ownsRow base 40 8 v (n+m) (flat encP (ps.take i++[r]++ps.drop i))/\Zex w w' (some g) v:=by
 have hnl:(flat encP ps).length=n*8:=hrow.1;have hui:=Tryz.underlying64;have hus:=Tryz.underlying29;obtain⟨i0,hi0,hz0,hzs,hzb⟩:=info_parts Tryz.infoRec;have hsz:(Tryz.prog.info? 40).map (·.size)=some 8:=by rw [hi0];simp [hzs]
 rcases hrow.2 with ⟨h0,_⟩ | ⟨g',cap',cur,hv,hbg,hg,hnc,hcm,hcs,htk⟩
 ·simp at h0
 simp at hv
 obtain⟨rfl,rfl⟩:=hv;have hc63:cap<=9223372036854775807:=by unfold maxLen at hcm;omega
 have hgw:=Zab hg;have hvw:=Zab hvb;have hD:(flat encP (ps.drop i)).length=(n-i)*8:=by rw [Zbt ZaK,List.length_drop, <-hnp]
 have hAl:(flat encP (ps.take i)).length=i*8:=by rw [Zbt ZaK,List.length_take,Nat.min_eq_left (by omega)]
 have hRl:(encP r).length=8:=ZaK r;have hkk:(n:Int)+(m:Int)-(i:Int)=((n+m-i:Nat):Int):=by omega
 have hik:i+(n+m-i)=n+m:=by omega
 have hcellw:∀ (j:Nat) (u:Value),(flat encP ps)[j]? = some u->w.cell? ⟨g,j,none⟩=some u:=fun j u hj=>by
  have h2:j<n*8:=by rw [<-hnl];exact (List.getElem?_eq_some_iff.1 hj).1
  rw [<-htk,List.getElem?_take_of_lt h2] at hj;rw [Zaa hg]
  simpa using hj
 have hold:(Builtin.firstCells i0.size i (.slice (some ⟨g,0,none⟩) i cap)).run Tryz.prog w.drew=.ok (flat encP (ps.take i)).toArray w.drew:=by
  rw [hzs];exact run_firstCells_some w.drew 8 i ⟨g,0,none⟩ i cap (flat encP (ps.take i)) hAl (fun j v hj=>by
   rw [add8,Nat.zero_add];refine hcellw j v ?_
   rw [<-Zho ps i (by omega),List.getElem?_take] at hj
   split at hj
   ·exact hj
   ·cases hj)
 have hrz0:=Lib.run_append_grow_zeros (P:=Tryz.prog) w 64 3 64 40 i0 _ .i64 .i64 hui Tryz.underlying3 hi0 hz0 (some ⟨g,0,none⟩) i cap (flat encP (ps.take i)) hold (n+m-i) (by omega) (by rw [hzs];omega) (by omega) (by omega) (by rw [hzb];omega) (by rw [hzb,hik];exact growslice_fits hroom (by omega))
 rw [hik] at hrz0;have hGn:=grownCap_ge w (n+m) cap 40;have hGm:=grownCap_le_maxLen w (n+m) cap 40 (by unfold maxLen;omega)
 obtain⟨G,hG⟩:∃ G,G=grownCap w (n+m) cap 40:=⟨_,rfl⟩;rw [<-hG] at hrz0 hGn hGm;obtain⟨ROW,hROW⟩:∃ ROW:Array Value,ROW=(flat encP (ps.take i)).toArray++Builtin.zeroCells (Value.agg (recC Zbe (.slice none 0 0))).cells (n+m-i)++Builtin.zeroCells (Value.agg (recC Zbe (.slice none 0 0))).cells (G-(n+m)):=⟨_,rfl⟩;rw [<-hROW] at hrz0;have hRs:ROW.size=G*8:=by
  rw [hROW];simp only [Array.size_append,List.size_toArray,size_zeroCells,hAl,show (Value.agg (recC Zbe (.slice none 0 0))).cells.size=8 from rfl]
  omega
 have hRt:ROW.toList.take (i*8)=flat encP (ps.take i):=by
  rw [hROW];simp only [Array.toList_append,List.append_assoc]
  rw [<-hAl];exact List.take_left
 obtain⟨N,hN⟩:∃ N,N=w.heap.size:=⟨_,rfl⟩;obtain⟨W1,hW1⟩:∃ W1,W1=w.drew.alloc (.cells ROW 40):=⟨_,rfl⟩;rw [<-hW1, <-hN] at hrz0;have hrz:∀ ty,(Builtin.append_ #[64,3] ty #[.slice (some ⟨g,0,none⟩) i cap,.int .i64 ((n:Int)+(m:Int)-(i:Int))]).run Tryz.prog w=.ok (.slice (some ⟨N,0,none⟩) (n+m) G) W1:=fun ty=>by
  rw [hkk];exact hrz0
 have g1:W1.heap[N]? = some (.cells ROW 40 (0,0)):=by rw [hW1,hN];exact heap_alloc_new w.drew _
 have b1:∀ k,k<N->W1.heap[k]? = w.heap[k]? := fun k hk=>by rw [hW1];exact Below.heap_alloc _ _ _ (by rw [hN] at hk;exact hk)
 have s1:W1.heap.size=N+1:=by rw [hW1,hN];simp
 have hcpA:∀ ty dc,(Builtin.copy_ #[64,29] ty #[.slice (some ⟨N,i*8,none⟩) (n+m-i) dc,.slice (some ⟨vb,0,none⟩) m 1]).run Tryz.prog W1=.ok (goInt (Nat.min m (n+m-i))) (W1.setRow N (ROW.toList.take (i*8)++encP r++ROW.toList.drop (i*8+(encP r).length)).toArray):=fun ty dc=>
  Zcf W1 64 29 ty 40 N (i*8) (n+m-i) dc ⟨vb,0,none⟩ m 1 8 ROW 40 (encP r) hui hsz g1
   (by rw [hRl];have:Nat.min m (n+m-i)=m:=Nat.min_eq_left (by omega);omega) (fun j u hj=>by
    rw [add8,Nat.zero_add];simp only [World.cell?]
    rw [b1 vb (by omega),hvb]
    simpa using hj) (by rw [hRl,hRs];omega) hr1
 obtain⟨c1,hc1⟩:∃ c1,c1=ROW.toList.take (i*8)++encP r++ROW.toList.drop (i*8+(encP r).length):=⟨_,rfl⟩;rw [<-hc1] at hcpA;have hc1l:c1.length=G*8:=by
  rw [hc1];simp only [List.length_append,List.length_take,List.length_drop,Array.length_toList,hRs,hRl]
  omega
 have hc1t:c1.take ((i+m)*8)=flat encP (ps.take i)++encP r:=by
  rw [hc1,hRt];rw [List.take_append_of_le_length (by simp only [List.length_append,hAl,hRl];omega),List.take_of_length_le (by simp only [List.length_append,hAl,hRl];omega)]
 obtain⟨W2,hW2⟩:∃ W2,W2=W1.setRow N c1.toArray:=⟨_,rfl⟩;rw [<-hW2] at hcpA;have g2:W2.heap[N]? = some (.cells c1.toArray 40 (0,0)):=by rw [hW2];exact setRow_heap W1 N ROW _ 40 _ g1
 have b2:∀ k,k<N->W2.heap[k]? = w.heap[k]? := fun k hk=>by rw [hW2,setRow_other W1 N k _ (by omega)];exact b1 k hk
 have s2:W2.heap.size=N+1:=by rw [hW2];simpa using s1
 have hcpB0:=fun dc sc=>Zcf (P:=Tryz.prog) W2.drew 64 64 3 40 N ((i+m)*8) (n+m-(i+m)) dc ⟨g,i*8,none⟩ (n-i) sc 8 c1.toArray 40 (flat encP (ps.drop i)) hui hsz g2
   (by rw [hD];congr 1;have:Nat.min (n-i) (n+m-(i+m))=n-i:=Nat.min_eq_left (by omega);omega) (fun j u hj=>by
    rw [add8];have h2:=hcellw (i*8+j) u (by rw [<-Zhn ps i (by omega),List.getElem?_drop] at hj;exact hj)
    simp only [World.cell?] at h2 |-
    rw [show W2.drew.heap[g]? = w.heap[g]? from b2 g (by omega)]
    exact h2) (by rw [hD];simp only [List.size_toArray,hc1l];omega) (ZeA _ (fun p hp=>hone p (List.mem_of_mem_drop hp)))
 obtain⟨c2,hc2⟩:∃ c2,c2=c1.take ((i+m)*8)++flat encP (ps.drop i)++c1.drop ((i+m)*8+(flat encP (ps.drop i)).length):=⟨_,rfl⟩;simp only [<-hc2] at hcpB0
 obtain⟨W3,hW3⟩:∃ W3,W3=W2.drew.setRow N c2.toArray:=⟨_,rfl⟩;rw [<-hW3] at hcpB0;have g3:W3.heap[N]? = some (.cells c2.toArray 40 (0,0)):=by rw [hW3];exact setRow_heap W2.drew N c1.toArray _ 40 _ g2
 have b3:∀ k,k<N->W3.heap[k]? = w.heap[k]? := fun k hk=>by rw [hW3,setRow_other W2.drew N k _ (by omega)];exact b2 k hk
 have s3:W3.heap.size=N+1:=by rw [hW3];simpa using s2
 have hfin:W3.ownsRow base 40 8 (.slice (some ⟨N,0,none⟩) (n+m) G) (n+m) (flat encP (ps.take i++[r]++ps.drop i))/\Zex w W3 (some g) (.slice (some ⟨N,0,none⟩) (n+m) G):=by
  refine⟨⟨?_,.inr ⟨N,G,c2.toArray,rfl,by rw [hN];exact hbase,g3,hGn,hGm,?_,?_⟩⟩,⟨⟨?_,?_,?_,by omega,fun k hk _=>b3 k (by omega)⟩,fun k hk=>.inr (Nat.le_of_eq (by rw [<-hN];simpa [Value.ownBlock] using hk))⟩⟩
  ·rw [Zbt ZaK,Zh8 ps r i (by omega)];omega
  ·rw [hc2,hc1t]
   simp only [List.size_toArray,List.length_append,List.length_drop,hc1l,hD,hRl,hAl]
   omega
  ·rw [ZgK,hc2,hc1t]
   exact Zea (by rw [hAl,hRl,hD];omega)
  ·rw [hW3,hW2,hW1];rfl
  ·rw [hW3,hW2,hW1];rfl
  ·rw [hW3,hW2,hW1];rfl
 have hz1:¬((m:Int)=0):=by omega
 have hz2:¬((i:Int)=(n:Int)):=by omega
 have hz3:(cap:Int)<(n:Int)+(m:Int):=by omega
 have hw1:IntKind.i64.wrap ((i:Int)+(m:Int))=(i:Int)+(m:Int):=by rw [IntKind.wrap_i64];omega
 have hw2:IntKind.i64.wrap ((n:Int)+(m:Int))=(n:Int)+(m:Int):=by rw [IntKind.wrap_i64];omega
 have hw3:IntKind.i64.wrap ((n:Int)+(m:Int)-(i:Int))=(n:Int)+(m:Int)-(i:Int):=by rw [IntKind.wrap_i64];omega
 have hb1:(0:Int)<=(i:Int)+(m:Int):=by omega
 have hin:i<=n:=by omega
 have htn:((i:Int)+(m:Int)).toNat=i+m:=by omega
 have hb3:(i:Int)<=(n:Int):=by omega
 have hGi:¬(G=i):=by omega
 have hGim:¬(G=i+m):=by omega
 have hci:¬(cap=i):=by omega
 have hG63:G<=9223372036854775807:=by unfold maxLen at hGm;omega
 have HD:=hide hfin;have HA:=hide hrz;have HC1:=hide hcpA;have HC2:=hide hcpB0;have mixed:Tryz.prog.follows .mixedOrders=true:=by kernel_rfl
 clear hfin hrz hcpA hcpB0 hrz0 g1 g2 g3 b1 b2 b3 s1 s2 s3 hW1 hW2 hW3 hc1 hc2 hc1l hc1t hROW hRs hRt hold hcellw hkk hik hN hG hGm hD hAl hRl hnl htk hcs hg hrow hvb hone hr1 hsz hi0 hz0 hzs hzb hm hnp
 go_enter Tryz.func107,Tryz.ntmps107
 go_wp2_with (first
  | (at_builtin;refine Lib.wpList_append_run _ rfl _ _ _ _ rfl _ _ rfl rfl _ _ (HA.out _) ?_)
  | (refine wpList_copy_runI _ rfl _ _ 64 29 rfl (.slice (some ⟨N,i*8,none⟩) (n+m-i) (G-i)) (.slice (some ⟨vb,0,none⟩) m 1) rfl rfl (HC1.out 3 (G-i)) ?_))
 go_region_law_o (refine step_copy_runI rfl _ _ 64 64 rfl (.slice (some ⟨N,(i+m)*8,none⟩) (n+m-(i+m)) (G-(i+m))) (.slice (some ⟨g,i*8,none⟩) (n-i) (cap-i)) (by simp [Act.eval,Act.put]) (by simp [Act.eval,Act.put]) (HC2.out (G-(i+m)) (cap-i)) ?_)
 go_wp2
 go_ret
 exact⟨_,rfl,HD.out⟩
def ordR (x y:RecD):Int:=cmpK (cmpN x.area y.area) (cmpN x.kind y.kind) (cmpN x.owner y.owner) (cmpN x.key y.key)
theorem ZeR (x y:RecD):decide (ordR x y<0)=Zan x y:=ZkW x y
def Zaw (xs:List RecD):Bool:=decide (xs.length<=150)&&Zbl Zas xs&&ascB ordR xs
theorem ZcD (v1 v2:Value)(x y:RecD)(w:World):Calls Tryz.prog 106 #[.agg (recC x v1),.agg (recC y v2)] w fun e w'=>e=.returned (.int .i64 (ordR x y))/\Below w.heap.size w w':=by
 have HK:=hide Zfb;unfold ordR;have HO:=hide (ZgU x.area x.kind x.owner x.key y.area y.kind y.owner y.key);obtain⟨r,hr⟩:∃ r,r=cmpK (cmpN x.area y.area) (cmpN x.kind y.kind) (cmpN x.owner y.owner) (cmpN x.key y.key):=⟨_,rfl⟩;rw [<-hr] at HO |-;clear hr;unfold recC at *
 go_enter Tryz.func106,Tryz.ntmps106
 go_wp2
 obtain⟨w1,hw1⟩:∃ w1,w1=(w.alloc (.cells #[.int .i64 x.area,.int .i64 x.kind,.int .i64 x.owner,.int .i64 x.key,.int .i64 x.seq,v1,.int .i64 x.cost,.bool x.far] 40)).alloc (.cells #[.int .i64 y.area,.int .i64 y.kind,.int .i64 y.owner,.int .i64 y.key,.int .i64 y.seq,v2,.int .i64 y.cost,.bool y.far] 40):=⟨_,rfl⟩;have B1:Below w.heap.size w w1:=by rw [hw1];exact ZaW _ _
 have p0:w1.heap[w.heap.size]? = some (.cells #[.int .i64 x.area,.int .i64 x.kind,.int .i64 x.owner,.int .i64 x.key,.int .i64 x.seq,v1,.int .i64 x.cost,.bool x.far] 40):=by rw [hw1,Below.heap_alloc _ _ _ (by simp),heap_alloc_new]
 have q0:w1.heap[w.heap.size+1]? = some (.cells #[.int .i64 y.area,.int .i64 y.kind,.int .i64 y.owner,.int .i64 y.key,.int .i64 y.seq,v2,.int .i64 y.cost,.bool y.far] 40):=by
  rw [hw1];have:=heap_alloc_new (w.alloc (.cells #[.int .i64 x.area,.int .i64 x.kind,.int .i64 x.owner,.int .i64 x.key,.int .i64 x.seq,v1,.int .i64 x.cost,.bool x.far] 40)) (.cells #[.int .i64 y.area,.int .i64 y.kind,.int .i64 y.owner,.int .i64 y.key,.int .i64 y.seq,v2,.int .i64 y.cost,.bool y.far] 40)
  simpa using this
 rw [<-hw1];clear hw1;have s0:=Zaa p0 0;have s1:=Zaa p0 1;have s2:=Zaa p0 2;have s3:=Zaa p0 3;have s4:=Zaa p0 4;have s5:=Zaa p0 5;have s6:=Zaa p0 6;have s7:=Zaa p0 7;simp at s0 s1 s2 s3 s4 s5 s6 s7
 have t0:=Zaa q0 0;have t1:=Zaa q0 1;have t2:=Zaa q0 2;have t3:=Zaa q0 3;have t4:=Zaa q0 4;have t5:=Zaa q0 5;have t6:=Zaa q0 6;have t7:=Zaa q0 7;simp at t0 t1 t2 t3 t4 t5 t6 t7
 have hz0:=Zab p0;have hz1:=Zab q0;clear p0 q0;have hz2:=B1.size
 go_region_held3 (fun W=>W.cell? ⟨w.heap.size,0,none⟩=some (.int .i64 x.area)/\W.cell? ⟨w.heap.size,1,none⟩=some (.int .i64 x.kind)/\W.cell? ⟨w.heap.size,2,none⟩=some (.int .i64 x.owner)/\W.cell? ⟨w.heap.size,3,none⟩=some (.int .i64 x.key)/\W.cell? ⟨w.heap.size,4,none⟩=some (.int .i64 x.seq)/\W.cell? ⟨w.heap.size,5,none⟩=some (v1)/\W.cell? ⟨w.heap.size,6,none⟩=some (.int .i64 x.cost)/\W.cell? ⟨w.heap.size,7,none⟩=some (.bool x.far)/\W.cell? ⟨w.heap.size+1,0,none⟩=some (.int .i64 y.area)/\W.cell? ⟨w.heap.size+1,1,none⟩=some (.int .i64 y.kind)/\W.cell? ⟨w.heap.size+1,2,none⟩=some (.int .i64 y.owner)/\W.cell? ⟨w.heap.size+1,3,none⟩=some (.int .i64 y.key)/\W.cell? ⟨w.heap.size+1,4,none⟩=some (.int .i64 y.seq)/\W.cell? ⟨w.heap.size+1,5,none⟩=some (v2)/\W.cell? ⟨w.heap.size+1,6,none⟩=some (.int .i64 y.cost)/\W.cell? ⟨w.heap.size+1,7,none⟩=some (.bool y.far)) (first | go_keep | (refine ⟨?_,?_,?_,?_,?_,?_,?_,?_,?_,?_,?_,?_,?_,?_,?_,?_⟩ <;> (rw [b4.cell (Nat.lt_of_lt_of_le (Nat.lt_of_lt_of_le (by assumption) b2.size) b3.size),b3.cell (Nat.lt_of_lt_of_le (by assumption) b2.size),b2.cell (by assumption)];assumption)) | (refine ⟨?_,?_,?_,?_,?_,?_,?_,?_,?_,?_,?_,?_,?_,?_,?_,?_⟩ <;> (rw [b3.cell (Nat.lt_of_lt_of_le (by assumption) b2.size),b2.cell (by assumption)];assumption)) | (refine ⟨?_,?_,?_,?_,?_,?_,?_,?_,?_,?_,?_,?_,?_,?_,?_,?_⟩ <;> (rw [b2.cell (by assumption)];assumption))) (first | (go_at_call 132;refine (HO.out _).mono ?_;rintro e w4 ⟨rfl,b4⟩) | (have hb2:=b2;refine (HK.out _ _ _ _ _ _ _ _ _).mono ?_;rintro e w3 ⟨rfl,b3⟩) | (refine (HK.out _ _ _ _ _ _ _ _ _).mono ?_;rintro e w2 ⟨rfl,b2⟩))
 have B2:Below w.heap.size w w2:=B1.drew.trans (b2.mono B1.size);have B3:Below w.heap.size w w3:=B2.trans (b3.mono B2.size);have B4:Below w.heap.size w w4:=B3.trans (b4.mono B3.size)
 go_wp2
 go_ret
 exact⟨rfl,B4⟩
theorem Zja (v:Value)(ps:List RP)(w:World)(hls:ps.length<=1048576)(hv:Zbs w v ps w.heap.size):
  Calls Tryz.prog 122 #[v,.func (.func 106) #[] #[]] w fun e w'=>e=.returned (.bool (ascB ordR (fsts ps)))/\Below w.heap.size w w':=by
 obtain⟨a,cap,rfl⟩:=hv.shape;have HV:=hide hv;clear hv;have hfl:(fsts ps).length=ps.length:=by simp [fsts]
 have HFL:=hide hfl;clear hfl
 go_enter Tryz.func122,Tryz.ntmps122
 go_wp2
 go_loopw [5] (fun i wr=>∃ k:Nat,1<=k/\(k<=ps.length\/k=1)/\i=.int .i64 k/\(∀ j,j<k->ZbA ordR (fsts ps) j=true)/\Below w.heap.size w wr) (fun i _=>ps.length+1-(intOf i).toNat)
 case atStart=>exact ⟨1,by omega,by omega,rfl,fun j hj=>by (obtain rfl:j=0:=by omega);rfl,Below.refl _ _⟩
 case round=>
  obtain⟨k,hk1,hk,rfl,hno,hb⟩:=hrel;have HNO:=hide hno;clear hno;by_cases hlt:k<ps.length
  ·obtain ⟨l,hl⟩:∃ l,ps[k]? = some l:=⟨ps[k],List.getElem?_eq_getElem hlt⟩
   obtain⟨j,hj⟩:∃ j,k=j+1:=⟨k-1,by omega⟩
   obtain⟨p,hp⟩:∃ p,ps[j]? = some p:=⟨ps[j],List.getElem?_eq_getElem (by omega)⟩
   obtain⟨b,off,cap',hve,hbb,c0,c1,c2,c3,c4,c5,c6,c7,_⟩:=HV.out.cells k l hl;cases hve
   obtain⟨b',off',cap2,hve2,hbb2,d0,d1,d2,d3,d4,d5,d6,d7,_⟩:=HV.out.cells j p hp;cases hve2
   rw [<-hb.cell (p:=⟨b,off+k*8,none⟩) hbb] at c0;rw [<-hb.cell (p:=⟨b,off+k*8+1,none⟩) hbb] at c1;rw [<-hb.cell (p:=⟨b,off+k*8+2,none⟩) hbb] at c2;rw [<-hb.cell (p:=⟨b,off+k*8+3,none⟩) hbb] at c3;rw [<-hb.cell (p:=⟨b,off+k*8+4,none⟩) hbb] at c4;rw [<-hb.cell (p:=⟨b,off+k*8+5,none⟩) hbb] at c5;rw [<-hb.cell (p:=⟨b,off+k*8+6,none⟩) hbb] at c6;rw [<-hb.cell (p:=⟨b,off+k*8+7,none⟩) hbb] at c7;rw [<-hb.cell (p:=⟨b,off+j*8,none⟩) hbb] at d0;rw [<-hb.cell (p:=⟨b,off+j*8+1,none⟩) hbb] at d1;rw [<-hb.cell (p:=⟨b,off+j*8+2,none⟩) hbb] at d2;rw [<-hb.cell (p:=⟨b,off+j*8+3,none⟩) hbb] at d3;rw [<-hb.cell (p:=⟨b,off+j*8+4,none⟩) hbb] at d4;rw [<-hb.cell (p:=⟨b,off+j*8+5,none⟩) hbb] at d5;rw [<-hb.cell (p:=⟨b,off+j*8+6,none⟩) hbb] at d6;rw [<-hb.cell (p:=⟨b,off+j*8+7,none⟩) hbb] at d7;have hat:ZbA ordR (fsts ps) k=decide (ordR p.1 l.1<0):=by rw [hj];exact Za6 (ZbB hp) (by rw [<-hj];exact ZbB hl)
   have hzr:=hb.size;have hbr:b<wr.heap.size:=by omega
   have hki:(0:Int)<=(k:Int):=by omega
   have hkj:(k:Int)<(ps.length:Int):=by omega
   have hj1:(k:Int)-1=(j:Int):=by omega
   have hj2:(0:Int)<=(j:Int):=by omega
   have hj3:(j:Int)<(ps.length:Int):=by omega
   have hj5:IntKind.i64.wrap (j:Int)=(j:Int):=ZaD _ (by omega) (by omega)
   have HORD:=hide (ZcD p.2 l.2 p.1 l.1);have HAT:=hide hat;clear hl hp hat hj;obtain⟨x,hx⟩:∃ x,x=ordR p.1 l.1:=⟨_,rfl⟩;rw [<-hx] at HORD HAT;clear hx;unfold recC at HORD;by_cases hx0:x<0
   ·have hx1:¬(0:Int)<=x:=by omega
    rw [decide_eq_true hx0] at HAT
    go_wp2
    go_region_held3 (fun W=>W.cell? ⟨b,off+k*8,none⟩=some (.int .i64 l.1.area)/\W.cell? ⟨b,off+k*8+1,none⟩=some (.int .i64 l.1.kind)/\W.cell? ⟨b,off+k*8+2,none⟩=some (.int .i64 l.1.owner)/\W.cell? ⟨b,off+k*8+3,none⟩=some (.int .i64 l.1.key)/\W.cell? ⟨b,off+k*8+4,none⟩=some (.int .i64 l.1.seq)/\W.cell? ⟨b,off+k*8+5,none⟩=some (l.2)/\W.cell? ⟨b,off+k*8+6,none⟩=some (.int .i64 l.1.cost)/\W.cell? ⟨b,off+k*8+7,none⟩=some (.bool l.1.far)/\W.cell? ⟨b,off+j*8,none⟩=some (.int .i64 p.1.area)/\W.cell? ⟨b,off+j*8+1,none⟩=some (.int .i64 p.1.kind)/\W.cell? ⟨b,off+j*8+2,none⟩=some (.int .i64 p.1.owner)/\W.cell? ⟨b,off+j*8+3,none⟩=some (.int .i64 p.1.key)/\W.cell? ⟨b,off+j*8+4,none⟩=some (.int .i64 p.1.seq)/\W.cell? ⟨b,off+j*8+5,none⟩=some (p.2)/\W.cell? ⟨b,off+j*8+6,none⟩=some (.int .i64 p.1.cost)/\W.cell? ⟨b,off+j*8+7,none⟩=some (.bool p.1.far)) (first | go_keep | (refine ⟨?_,?_,?_,?_,?_,?_,?_,?_,?_,?_,?_,?_,?_,?_,?_,?_⟩ <;> (rw [hbc.cell (by assumption)];assumption))) (first | (go_at_call 106;refine (HORD.out _).mono ?_;rintro e w2 ⟨rfl,hbc⟩))
    go_wp2
    exact⟨⟨k+1,by omega,by omega,by go_num,ZaC HNO.out HAT.out,hb.drew.trans (hbc.mono hb.size)⟩,by simp [intOf];omega⟩
   ·have hx1:(0:Int)<=x:=by omega
    rw [decide_eq_false hx0] at HAT;have hf:ascB ordR (fsts ps)=false:=ZaF (by rw [HFL.out];exact hlt) HAT.out
    have HF:=hide hf;clear hf
    go_wp2
    go_region_held3 (fun W=>W.cell? ⟨b,off+k*8,none⟩=some (.int .i64 l.1.area)/\W.cell? ⟨b,off+k*8+1,none⟩=some (.int .i64 l.1.kind)/\W.cell? ⟨b,off+k*8+2,none⟩=some (.int .i64 l.1.owner)/\W.cell? ⟨b,off+k*8+3,none⟩=some (.int .i64 l.1.key)/\W.cell? ⟨b,off+k*8+4,none⟩=some (.int .i64 l.1.seq)/\W.cell? ⟨b,off+k*8+5,none⟩=some (l.2)/\W.cell? ⟨b,off+k*8+6,none⟩=some (.int .i64 l.1.cost)/\W.cell? ⟨b,off+k*8+7,none⟩=some (.bool l.1.far)/\W.cell? ⟨b,off+j*8,none⟩=some (.int .i64 p.1.area)/\W.cell? ⟨b,off+j*8+1,none⟩=some (.int .i64 p.1.kind)/\W.cell? ⟨b,off+j*8+2,none⟩=some (.int .i64 p.1.owner)/\W.cell? ⟨b,off+j*8+3,none⟩=some (.int .i64 p.1.key)/\W.cell? ⟨b,off+j*8+4,none⟩=some (.int .i64 p.1.seq)/\W.cell? ⟨b,off+j*8+5,none⟩=some (p.2)/\W.cell? ⟨b,off+j*8+6,none⟩=some (.int .i64 p.1.cost)/\W.cell? ⟨b,off+j*8+7,none⟩=some (.bool p.1.far)) (first | go_keep | (refine ⟨?_,?_,?_,?_,?_,?_,?_,?_,?_,?_,?_,?_,?_,?_,?_,?_⟩ <;> (rw [hbc.cell (by assumption)];assumption))) (first | (go_at_call 106;refine (HORD.out _).mono ?_;rintro e w2 ⟨rfl,hbc⟩))
    go_wp2
    go_ret
    exact⟨Zaf HF.out,hb.drew.trans (hbc.mono hb.size)⟩
  ·have hall:ascB ordR (fsts ps)=true:=ZaG fun i hi=>HNO.out i (by have:=HFL.out;omega)
   have HA:=hide hall;clear hall
   go_wp2
   go_ret
   exact⟨Zaf HA.out,hb⟩
theorem Zh7 (v:Value)(ps:List RP)(w:World)(hls:ps.length<=1048576)(hv:Zbs w v ps w.heap.size):
  Calls Tryz.prog 82 #[v] w fun e w'=>e=.returned (.bool (ascB ordR (fsts ps)))/\Below w.heap.size w w':=by
 have H:=hide (Zja v ps w hls hv);obtain⟨a,cap,rfl⟩:=hv.shape;clear hv
 go_enter Tryz.func82,Tryz.ntmps82
 go_wp2_with fail
 refine H.out.mono ?_
 rintro e w1 ⟨rfl,b1⟩
 go_wp2
 go_ret
 exact⟨rfl,b1⟩
theorem Zgj {xs:List RecD}(h:¬xs.length<=150):Zaw xs=false:=by unfold Zaw;rw [decide_eq_false h];rfl
theorem ZhL {xs:List RecD}{k:Nat}(hk:k<xs.length)(h:okAt Zas xs k=false):Zaw xs=false:=by unfold Zaw Zbl;rw [ZaF hk h];simp
theorem Zhr (v:Value)(ps:List RP)(w:World)(hn:tot ps<=1048576)(hv:Zbs w v ps w.heap.size):
  Calls Tryz.prog 39 #[v] w fun e w'=>e=.returned (.bool (Zaw (fsts ps)))/\Below w.heap.size w w':=by
 have hnl:=Za3 ps;obtain⟨a,cap,rfl⟩:=hv.shape;have HV:=hide hv;clear hv;have hfl:(fsts ps).length=ps.length:=by simp [fsts]
 by_cases hlong:(150:Int)<(ps.length:Int)
 ·have HF:=hide (Zgj (xs:=fsts ps) (by omega))
  clear hfl
  go_enter Tryz.func39,Tryz.ntmps39
  go_wp2
  go_ret
  exact⟨Zaf HF.out,Below.refl _ _⟩
 have HFL:=hide hfl;clear hfl
 go_enter Tryz.func39,Tryz.ntmps39
 go_wp2
 go_loopw [10] (fun i wr=>∃ k:Nat,k<=ps.length/\i=.int .i64 k/\(∀ j,j<k->okAt Zas (fsts ps) j=true)/\Below w.heap.size w wr) (fun i _=>ps.length-(intOf i).toNat)
 case atStart=>exact ⟨0,by omega,rfl,by omega,Below.refl _ _⟩
 case round=>
  obtain⟨k,hk,rfl,hall,hnx⟩:=hrel;have HALL:=hide hall;clear hall;have hsz:=hnx.size;by_cases hlt:k<ps.length
  ·obtain ⟨p,hp⟩:∃ p,ps[k]? = some p:=⟨ps[k],List.getElem?_eq_getElem hlt⟩
   obtain⟨b,off,cap',hve,hbb,c0,c1,c2,c3,c4,c5,c6,c7,hnr⟩:=HV.out.cells k p hp;cases hve
   rw [<-hnx.cell (p:=⟨b,off+k*8,none⟩) hbb] at c0;rw [<-hnx.cell (p:=⟨b,off+k*8+1,none⟩) hbb] at c1;rw [<-hnx.cell (p:=⟨b,off+k*8+2,none⟩) hbb] at c2;rw [<-hnx.cell (p:=⟨b,off+k*8+3,none⟩) hbb] at c3;rw [<-hnx.cell (p:=⟨b,off+k*8+4,none⟩) hbb] at c4;rw [<-hnx.cell (p:=⟨b,off+k*8+5,none⟩) hbb] at c5;rw [<-hnx.cell (p:=⟨b,off+k*8+6,none⟩) hbb] at c6;rw [<-hnx.cell (p:=⟨b,off+k*8+7,none⟩) hbb] at c7;have hnr2:=(ZaT.later hnr hnx (Nat.le_refl _)).more hnx.size;obtain⟨pa,pc,hpn⟩:=ZaA.shape hnr;have HOK:=fun o=>Zf0 p.2 p.1 (wr.alloc o) (by have:=Zc6 (List.mem_of_getElem? hp);omega) (ZaT.then hnr2 ((Below.refl _ _).alloc (Nat.le_refl _) o))
   unfold recC at HOK;rw [hpn] at c5 HOK;have HAT:=Zbh (ok:=Zas) (ZbB hp);obtain⟨q,hq⟩:∃ q,q=Zas p.1:=⟨_,rfl⟩;rw [<-hq] at HOK HAT;have HOK2:=hide HOK;have HAT2:=hide HAT;clear hp hnr hnr2 hpn HOK HAT hq;have hki:(0:Int)<=(k:Int):=by omega
   have hkj:(k:Int)<(ps.length:Int):=by omega
   go_wp2_with fail
   refine (HOK2.out _).mono ?_
   rintro e w2 ⟨rfl,b2⟩;have B2:Below w.heap.size w w2:=(hnx.alloc hsz _).trans (b2.mono (by simp;omega))
   cases q
   ·have HF:=hide (ZhL (by rw [HFL.out];exact hlt) HAT2.out)
    go_wp2
    go_ret
    exact⟨Zaf HF.out,B2⟩
   ·go_wp2
    go_roundw
    case rel=>exact ⟨k+1,by omega,by go_num,ZaC HALL.out HAT2.out,B2⟩
    case measure=>simp [intOf];omega
  ·have e1:Zbl Zas (fsts ps)=true:=ZaG fun i hi=>HALL.out i (by have:=HFL.out;omega)
   have e2:Zaw (fsts ps)=ascB ordR (fsts ps):=by
    unfold Zaw;rw [e1,decide_eq_true (by have:=HFL.out;omega)]
    rfl
   have HE:=hide e2;have HIO:=hide (Zh7 (.slice a ps.length cap) ps wr (by omega) ((HV.out.later hnx (Nat.le_refl _)).more hsz))
   clear e1 e2
   go_wp2_with fail
   refine HIO.out.mono ?_
   rintro e w2 ⟨rfl,b2⟩
   go_wp2
   go_ret
   exact⟨Zaf HE.out,hnx.trans (b2.mono hsz)⟩
end Go.Proofs.YtcimbiinljcifaaGreat
