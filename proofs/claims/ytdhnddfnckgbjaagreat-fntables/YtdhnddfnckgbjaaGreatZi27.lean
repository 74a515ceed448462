/-
  Parts.
-/
import Derived.Test.YtdhnddfnckgbjaaGreatZi26
namespace Go.Proofs.YtdhnddfnckgbjaaGreat
open Go.RowKit
set_option linter.unusedSimpArgs false
set_option linter.unusedVariables false
set_option maxRecDepth 100000
set_option maxHeartbeats 8000000
variable {qs:List QP}{rs:List RtD}{cap len lo n p t u z:Nat}{a:Option Addr}{v:Value}{V W W' w:World}
def Zlm (σ:Nat->Int)(u n:Nat):List Bool:=(List.range n).map (fun j => !decide (σ (u+j)%8=0))
def L11I (σ:Nat->Int)(t:Nat)(L0:List RtD):Prop:=
 ZbZ (Zet (netF σ t).1.ls (netF σ t).1.ts (Zlm σ (netF σ t).2 (netF σ t).1.ls.length) (List.replicate (netF σ t).1.n.toNat true) (netF σ t).1.n.toNat) (ZaB (netF σ t).1.ls (σ ((netF σ t).2+(netF σ t).1.ls.length)%(netF σ t).1.n+1)) (Zfm (netF σ t).1.ls (σ ((netF σ t).2+(netF σ t).1.ls.length)%(netF σ t).1.n+1)) (σ ((netF σ t).2+(netF σ t).1.ls.length)%(netF σ t).1.n+1) L0
def L11R (σ:Nat->Int)(t:Nat)(rs:List RtD)(y:Nat):Prop:=
 ∃ L0,L11I σ t L0/\((L0=[]/\rs=[]/\y=(netF σ t).2+(netF σ t).1.ls.length+1)\/(L0≠[]/\y=(netF σ t).2+(netF σ t).1.ls.length+1+1/\rs=if decide (σ ((netF σ t).2+(netF σ t).1.ls.length+1)%6=0)=true then L0++L0.take 1 else L0))
theorem L11R.unique {σ:Nat->Int}{rs':List RtD}{y y':Nat}(h:L11R σ t rs y)(h':L11R σ t rs' y'):rs=rs'/\y=y':=by
 obtain⟨L0,h1,h2⟩:=h;obtain⟨L1,h3,h4⟩:=h';have e:L0=L1:=ZbZ.unique h1 h3;subst e;rcases h2 with ⟨a,b,c⟩ | ⟨a,b,c⟩ <;> rcases h4 with ⟨d,e,f⟩ | ⟨d,e,f⟩
 ·exact ⟨by rw [b,e],by rw [c,f]⟩
 ·exact absurd a d
 ·exact absurd d a
 ·exact ⟨by rw [c,f],by rw [b,e]⟩
structure L11E (σ:Nat->Int) (t u n:Nat) (rs:List RtD):Prop where
 is:L11I σ t rs
 pos:(netF σ t).2=u
 len:(netF σ t).1.ls.length=n
theorem l11_of {σ:Nat->Int}{N:Nat}{ls:List Lk}{ts:List Th}{bs:List Bool}{m:Nat}(hn:netF σ t=(⟨(N:Int),ls,ts⟩,u))(hb:bs=Zlm σ u ls.length)(hm:(m:Int)=σ (u+ls.length)%(N:Int)) (hi:ZbZ (Zet ls ts bs (List.replicate N true) N) (ZaB ls ((m:Int)+1)) (Zfm ls ((m:Int)+1)) ((m:Int)+1) rs):L11E σ t u ls.length rs:=by
 refine⟨?_,by rw [hn],by rw [hn]⟩;unfold L11I;rw [hn];simp only [Int.toNat_natCast];rw [<-hm, <-hb];exact hi
theorem Zm3 {σ:Nat->Int}(h:L11E σ t u n rs)(h0:rs=[]):L11R σ t rs (u+n+1):=
 ⟨rs,h.is,.inl ⟨h0,h0,by rw [h.pos,h.len]⟩⟩
theorem ZjX {σ:Nat->Int}{ss:List RtD}{o:Bool}(h:L11E σ t u n rs)(h0:¬rs=[])(ho:o=decide (σ (u+n+1)%6=0))(hs:(o=false/\ss=rs)\/(o=true/\∃ q,rs[0]? = some q/\ss=rs++[q])):L11R σ t ss (u+n+1+1):=by
 refine⟨rs,h.is,.inr ⟨h0,by rw [h.pos,h.len],?_⟩⟩;rw [h.pos,h.len, <-ho];rcases hs with ⟨rfl,rfl⟩ | ⟨rfl,q,h1,rfl⟩
 ·rfl
 ·cases rs with
  | nil=>exact absurd rfl h0
  | cons a l=>
   simp at h1;subst h1;rfl
structure LSd (w V W:World) (p z:Nat) (a:Option Addr) (len cap:Nat) (σ:Nat->Int) (t:Nat):Prop where
 cur:CurT W p a len cap σ t
 bel:Below p w W
 kept:∀ b,b<z->b≠p->W.heap[b]? = V.heap[b]?
 size:z<=W.heap.size
 lt:p<w.heap.size
theorem LSd.grown {σ:Nat->Int}(h:LSd w V W p z a len cap σ t)(hc:CurT W' p a len cap σ u)(hg:W.grownBy W' (some p)):LSd w V W' p z a len cap σ u where
 cur:=hc
 bel:=h.bel.grown hg (by have:=h.bel.size;have:=h.lt;omega) (fun k hk=>by simp at hk;omega)
 kept:=fun b hb hbp=>by rw [hg.block b (by have:=h.size;omega) (by simp;exact hbp)];exact h.kept b hb hbp
 size:=YAG h.size hg.size
 lt:=h.lt
theorem LSd.drew {σ:Nat->Int}(h:LSd w V W p z a len cap σ t):LSd w V W.drew p z a len cap σ t:=
 ⟨h.cur,h.bel.drew,h.kept,h.size,h.lt⟩
theorem LSd.set {σ:Nat->Int}(h:LSd w V W p z a len cap σ t)(g i:Nat)(v:Value)(hz:z<=g)(hp:p<z):LSd w V (W.setCell ⟨g,i,none⟩ v) p z a len cap σ t where
 cur:=h.cur.grown (Zaj W g i v) (fun b hb=>by simp;omega)
 bel:=h.bel.grown (Zaj W g i v) (by have:=h.bel.size;have:=h.lt;omega) (fun k hk=>by simp at hk;omega)
 kept:=fun b hb hbp=>by rw [(Zaj W g i v).block b (by have:=h.size;omega) (by simp;omega)];exact h.kept b hb hbp
 size:=by have:=h.size;simp;omega
 lt:=h.lt
theorem LSd.below {σ:Nat->Int}(h:LSd w V W p z a len cap σ t)(hb:Below W.heap.size W W'):LSd w V W' p z a len cap σ t where
 cur:=h.cur.grown (row:=none) ⟨hb.os,hb.tape,hb.output,hb.size,fun k hk _=>hb.block k hk⟩ (fun b hb=>by simp)
 bel:=h.bel.trans (hb.mono (by have:=h.bel.size;have:=h.lt;omega))
 kept:=fun b hb' hbp=>by rw [hb.block b (by have:=h.size;omega)];exact h.kept b hb' hbp
 size:=YAG h.size hb.size
 lt:=h.lt
theorem LSd.gro {σ:Nat->Int}(h:LSd w V W p z a len cap σ t)(hz:w.heap.size<=z)(hg:w.grownBy V (some p)):w.grownBy W (some p):=
 ⟨h.bel.os,h.bel.tape,h.bel.output,YAG hz h.size,fun b hb hne=>(h.kept b (YAC hb hz) (fun e=>hne (by rw [e]))).trans (hg.block b hb hne)⟩
theorem Zkx {size:Nat}{o:Obj}{e:TypeId}{xs:List Value}(h:w.grownBy W (some p))(hr:(W.alloc o).ownsRow w.heap.size e size v n xs)(hg:(W.alloc o).grownBy W' v.ownBlock):w.grownBy W' (some p):=by
 have h2:w.grownBy (W.alloc o) (some p):=Zaq h (World.grownBy_alloc W o _);exact⟨hg.os.trans h2.os,hg.tape.trans h2.tape,hg.output.trans h2.output,YAG h2.size hg.size,fun b hb hne=>(hg.block b (YAC hb h2.size) (fun e9=>by have:=(hr.lt b e9.symm).1;omega)).trans (h2.block b hb hne)⟩
theorem Zjb (p:Nat)(a:Option Addr)(len cap:Nat)(σ:Nat->Int)(t:Nat)(w:World)(hc:CurT w p a len cap σ t):
  Calls Tryz.prog 27 #[.pointer (some ⟨p,0,none⟩)] w fun e w'=>∃ x qs y,e=.returned x/\Hid (L11R σ t (ZaY qs) y)/\RtsG w' w.heap.size x qs/\CurT w' p a len cap σ y/\Below p w w'/\w.grownBy w' (some p):=by
 have HC:=hide hc;have hpw:=hc.lt;clear hc
 go_enter Tryz.func27,Tryz.ntmps27
 go_wp2_with fail
 refine (Zom p a len cap σ t _ HC.out).mono ?_;rintro e w1 ⟨x,v1,v2,u,rfl,HNF,hok,o1,o2,hc1,b1,g1⟩;obtain⟨a1,c1,rfl⟩:=ZaX.shape (Zan o1);obtain⟨a2,c2,rfl⟩:=Zbq.shape (Zan o2);have hth:=ZkH hok;have hn6:=Zng hok;have hl12:=Znf hok;obtain⟨n,ls,ts⟩:=x;simp only [] at hth hn6 hl12 o1 o2 hok |-
 obtain⟨N,rfl⟩:∃ N:Nat,n=(N:Int):=⟨n.toNat,by omega⟩;obtain⟨hl12,ht4⟩:=hl12;have hs1:=b1.size;have GG1:=hide g1;have hsw:=g1.size;obtain⟨zn,hzn⟩:∃ zn,zn=w1.heap.size:=⟨_,rfl⟩;obtain⟨W4,hW4⟩:∃ W4,W4=((w1.alloc (.cells #[.int .i64 (N:Int),.slice a1 ls.length c1,.slice a2 ts.length c2] 81)).alloc (.cells (rowA (fun _=>.bool false) ls.length) 4)).alloc (.cells (rowA (fun _=>.bool false) N) 4):=⟨_,rfl⟩;have hx0:=ZlI w1 (.cells #[.int .i64 (N:Int),.slice a1 ls.length c1,.slice a2 ts.length c2] 81) (.cells (rowA (fun _=>.bool false) ls.length) 4) (.cells (rowA (fun _=>.bool false) N) 4);have hx1:=ZlJ w1 (.cells #[.int .i64 (N:Int),.slice a1 ls.length c1,.slice a2 ts.length c2] 81) (.cells (rowA (fun _=>.bool false) ls.length) 4) (.cells (rowA (fun _=>.bool false) N) 4);have hx2:=ZlK w1 (.cells #[.int .i64 (N:Int),.slice a1 ls.length c1,.slice a2 ts.length c2] 81) (.cells (rowA (fun _=>.bool false) ls.length) 4) (.cells (rowA (fun _=>.bool false) N) 4);have hsz:W4.heap.size=w1.heap.size+3:=by rw [hW4];simp
 rw [<-hW4, <-hzn] at hx0 hx1 hx2;have st0:LSd w w1 W4 p zn a len cap σ u:=by
  rw [hW4];refine⟨((hc1.alloc _).alloc _).alloc _,(((b1.alloc (by omega) _).alloc (by simp;omega) _).alloc (by simp;omega) _),fun b hb hbp=>?_,by simp;omega,hpw⟩;rw [YAI _ _ _ (by simp;omega),YAI _ _ _ (by simp;omega),YAI _ _ _ (by omega)]
 have NET0:=hide hx0;have ROW1:=hide hx1;have ROW2:=hide hx2;have ST0:=hide st0;have O1:=hide o1;have O2:=hide o2;have HOK:=hide hok;have HTH:=hide hth;have HW4:=hide hW4;have HZN:=hide hzn;have hzs:zn+3=W4.heap.size:=by omega
 have HZS:=hide hzs;have hpz:p<zn:=by omega
 have hwz:w.heap.size<=zn:=by omega
 have hpz1:¬p=zn:=by omega
 have hpz2:¬p=zn+1:=by omega
 have hpz3:¬p=zn+1+1:=by omega
 clear hx0 hx1 hx2 st0 o1 o2 hok hth hc1 b1 g1 hs1 hsw hsz;clear hW4 hzn hzs
 go_wp2_with (first | (at_make;first | refine Za4 _ rfl _ _ 83 rfl 4 (.bool false) 1 Tryz.underlying83 Tryz.infoBl rfl ls.length rfl rfl (by omega) (by omega) ?_ | refine Za4 _ rfl _ _ 83 rfl 4 (.bool false) 1 Tryz.underlying83 Tryz.infoBl rfl N rfl rfl (by omega) (by omega) ?_))
 rw [<-HW4.out, <-HZN.out]
 go_loopw [6] (fun i wr=>∃ (k:Nat) (f:Nat->Bool),k<=ls.length/\i=.int .i64 k/\Hid (∀ j,j<k->f j = !decide (σ (u+j)%8=0))/\wr.heap[zn+1]? = some (.cells (rowA (fun j=>.bool (f j)) ls.length) 4)/\wr.heap[zn+1+1]? = some (.cells (rowA (fun _=>.bool false) N) 4)/\wr.heap[zn]? = some (.cells #[.int .i64 (N:Int),.slice a1 ls.length c1,.slice a2 ts.length c2] 81)/\LSd w w1 wr p zn a len cap σ (u+k)) (fun i _=>ls.length-(intOf i).toNat)
 case atStart=>exact ⟨0,fun _=>false,by omega,rfl,hide (by omega),ROW1.out,ROW2.out,NET0.out,ST0.out⟩
 case round=>
  obtain⟨k,f,hk,rfl,HFF,r1,r2,rn,st⟩:=hrel;by_cases hlt:k<ls.length
  ·have hki:(0:Int)<=(k:Int):=by omega
   have hkj:(k:Int)<(ls.length:Int):=by omega
   have R1:=hide r1;have R2:=hide r2;have RN:=hide rn;have ST:=hide st;clear r1 r2 rn st
   go_wp2_with fail
   refine (Zfy p a len cap σ (u+k) 8 _ ST.out.cur (by omega) (by omega)).mono ?_;rintro e w5 ⟨b,rfl,HBB,hc5,g5⟩;have r15:=(g5.block (zn+1) (Zab R1.out) (by simp;omega)).trans R1.out;have cc15:=Zcy r15 hlt;have h15:=Zab r15;have f15:=Zae r15;have R15:=hide r15;have R25:=hide ((g5.block (zn+1+1) (Zab R2.out) (by simp;omega)).trans R2.out);have RN5:=hide ((g5.block zn (Zab RN.out) (by simp;omega)).trans RN.out);have ST5:=hide (ST.out.grown hc5 g5);clear r15 hc5 g5 R1 R2 RN ST;go_wp2;have R16:=hide (show (w5.setCell ⟨zn+1,k,none⟩ (.bool (!b))).heap[zn+1]? = some (.cells (rowA (fun j=>.bool (if j=k then !b else f j)) ls.length) 4) by
    have h:=ZdP R15.out (i:=k) (.bool (!b));have e:(fun j=>if j=k then Value.bool (!b) else .bool (f j))=fun j=>Value.bool (if j=k then !b else f j):=by funext j;split <;> rfl
    rw [e] at h;exact h)
   have R26:=hide (((Zaj w5 (zn+1) k (.bool (!b))).block (zn+1+1) (Zab R25.out) (by simp)).trans R25.out);have RN6:=hide (((Zaj w5 (zn+1) k (.bool (!b))).block zn (Zab RN5.out) (by simp;try omega)).trans RN5.out);have ST6:=hide (ST5.out.set (zn+1) k (.bool (!b)) (by omega) hpz);go_roundw
   case rel=>exact ⟨k+1,_,by omega,by go_num,hide (fun j hj=>by
    by_cases e:j=k
    ·subst e;simp only [if_true];rw [HBB.out]
    ·simp only [if_neg e];exact HFF.out j (by omega)),R16.out,R26.out,RN6.out,ST6.out⟩
   case measure=>simp [intOf];omega
  ·have hkn:¬(k:Int)<(ls.length:Int):=by omega
   have R1:=hide r1;have R2:=hide r2;have RN:=hide rn;have ST:=hide st;have hkl:k=ls.length:=by omega
   have HBF:=hide (show (List.range ls.length).map f=Zlm σ u ls.length by
    unfold Zlm;exact List.map_congr_left (fun j hj=>HFF.out j (by rw [hkl];exact List.mem_range.1 hj)))
   have HST:=hide (show LSd w w1 wr p zn a len cap σ (u+ls.length) by rw [<-hkl];exact ST.out);clear r1 r2 rn st ST HFF hkl;go_wp2
   go_loopw [7] (fun i wr=>∃ (k:Nat),k<=N/\i=.int .i64 k/\wr.heap[zn+1]? = some (.cells (rowA (fun j=>.bool (f j)) ls.length) 4)/\wr.heap[zn+1+1]? = some (.cells (rowA (fun j=>.bool (decide (j<k))) N) 4)/\wr.heap[zn]? = some (.cells #[.int .i64 (N:Int),.slice a1 ls.length c1,.slice a2 ts.length c2] 81)/\LSd w w1 wr p zn a len cap σ (u+ls.length)) (fun i _=>N-(intOf i).toNat)
   case atStart=>exact ⟨0,by omega,rfl,R1.out,by simpa using R2.out,RN.out,HST.out⟩
   case round=>
    clear R1 R2 RN HST;obtain⟨k,hk,rfl,r1,r2,rn,st⟩:=hrel;by_cases hlt:k<N
    ·have hki:(0:Int)<=(k:Int):=by omega
     have hkj:(k:Int)<(N:Int):=by omega
     have cc2:=Zcy r2 hlt;have h2:=Zab r2;have f2:=Zae r2;have R1:=hide r1;have R2:=hide r2;have RN:=hide rn;have ST:=hide st;clear r1 r2 rn st;go_wp2;have R26:=hide (show (wr.setCell ⟨zn+1+1,k,none⟩ (.bool true)).heap[zn+1+1]? = some (.cells (rowA (fun j=>.bool (decide (j<k+1))) N) 4) by
      have h:=ZdP R2.out (i:=k) (.bool true);have e:(fun j=>if j=k then Value.bool true else .bool (decide (j<k)))=fun j=>Value.bool (decide (j<k+1)):=by
       funext j
       split
       ·rename_i h;subst h;simp
       ·rename_i h;congr 1;simp;omega
      rw [e] at h;exact h)
     have R16:=hide (((Zaj wr (zn+1+1) k (.bool true)).block (zn+1) (Zab R1.out) (by simp)).trans R1.out);have RN6:=hide (((Zaj wr (zn+1+1) k (.bool true)).block zn (Zab RN.out) (by simp;try omega)).trans RN.out);have ST6:=hide (ST.out.set (zn+1+1) k (.bool true) (by omega) hpz);go_roundw
     case rel=>exact ⟨k+1,by omega,by go_num,R16.out,R26.out,RN6.out,ST6.out⟩
     case measure=>simp [intOf];omega
    ·have hkn:¬(k:Int)<(N:Int):=by omega
     have r2':wr.heap[zn+1+1]? = some (.cells (rowA (fun _=>.bool true) N) 4):=by
      rw [r2];congr 2;exact Zco (fun i hi=>by simp;omega)
     have R1R:=hide r1;have R2R:=hide r2';have STR:=hide st;have s0:=Zaa rn 0;have s1:=Zaa rn 1;have s2:=Zaa rn 2;simp only [YAN,YAK,YAL] at s0 s1 s2;have RN:=hide rn;have HCD:=hide (show CurT wr.drew p a len cap σ (u+ls.length) from st.cur);obtain⟨bs,hbs⟩:∃ bs,bs=(List.range ls.length).map f:=⟨_,rfl⟩;have hbl:bs.length=ls.length:=by rw [hbs];simp
     have HBSE:=hide (show bs=Zlm σ u ls.length from hbs.trans HBF.out);have HTR:=hide (fun W (st:LSd w w1 W p zn a len cap σ (u+ls.length+1)) (r1:W.heap[zn+1]? = some (.cells (rowA (fun j=>.bool (f j)) ls.length) 4)) (r2:W.heap[zn+1+1]? = some (.cells (rowA (fun _=>.bool true) N) 4)) m (hm:m<N)=>Zmn (.slice a1 ls.length c1) (.slice a2 ts.length c2) (.slice (some ⟨zn+1,0,none⟩) ls.length ls.length) (.slice (some ⟨zn+1+1,0,none⟩) N N) N m ls ts bs (List.replicate N true) W HOK.out (by omega) (by omega) hl12 ht4 HTH.out
      (by
       have h:=O1.out;exact Zan (Zai h (fun k hk=>st.kept k (by rw [HZN.out];exact (h.lt k hk).2) (by have:=(h.lt k hk).1;omega))))
      (by
       have h:=O2.out;exact Zan (Zai h (fun k hk=>st.kept k (by rw [HZN.out];exact (h.lt k hk).2) (by have:=(h.lt k hk).1;omega))))
      (by have h:=Zg3 r1;rw [<-hbs] at h;exact h)
      (by have h:=Zg3 (f:=fun _=>true) r2;rw [List.map_const',List.length_range] at h;exact h)
      hbl (by simp) hm (by rw [List.getElem?_replicate,if_pos hm]))
     have HBS:=hide hbs;have hznr:=STR.out.size;have hznl:zn<wr.heap.size:=Zab rn;clear r1 r2 r2' rn st hbs hlt;go_wp2;refine Zah (S:=(fun (W:World)=>W.cell? ⟨zn,0,none⟩=some (.int .i64 (N:Int))/\W.cell? ⟨zn,1,none⟩=some (.slice a1 ls.length c1)/\W.cell? ⟨zn,2,none⟩=some (.slice a2 ts.length c2))) (by kernel_rfl) 10 rfl ⟨s0,s1,s2⟩ (fun ops hops hHeld=>?_)
     iterate 6 (refine TK 10 ?_;try simp only [putS])
     refine TC 6 ?_;intro K hK;go_simp;refine (Za5 p a len cap σ (u+ls.length) (N:Int) _ HCD.out (by omega) (by omega)).mono ?_;rintro e wa ⟨r,rfl,hr0,hr1,HRR,hca,ga⟩;obtain⟨m,hm⟩:∃ m:Nat,r=(m:Int):=⟨r.toNat,by omega⟩;subst hm;refine hK.out _ _ ?_ (fun hHeld=>?_)
     ·obtain ⟨m0,m1,m2⟩:=hHeld;exact⟨(ga.cell m0 (by simp;omega)),(ga.cell m1 (by simp;omega)),(ga.cell m2 (by simp;omega))⟩
     clear hK K
     try simp only [putS]
     have hmN:m<N:=by omega
     have hwr:IntKind.i64.wrap ((m:Int)+1)=(m:Int)+1:=by rw [IntKind.wrap_i64];omega
     have hzna:zn<wa.heap.size:=YAC hznl ga.size;have STA:=hide ((STR.out.drew).grown hca ga);have R1A:=hide ((ga.block (zn+1) (Zab R1R.out) (by simp;omega)).trans R1R.out);have R2A:=hide ((ga.block (zn+1+1) (Zab R2R.out) (by simp;omega)).trans R2R.out);refine TK 10 (v:=.int .i64 ((m:Int)+1)) ?_ (hy:=by intro W hW;(try dsimp only at hW);go_simp <;> (first | with_reducible rfl | (rw [Int.add_comm];exact hwr)))
     try simp only [putS]
     refine TC 8 ?_;intro K hK;go_simp;refine (HTR.out _ STA.out R1A.out R2A.out m hmN).mono ?_;rintro e wb ⟨v8,qs,rfl,hir,hrs,bb⟩;obtain⟨va,vc,rfl⟩:=Zac hrs.row;have hzb:=STA.out.size;have HIR:=hide hir;have HRS:=hide hrs;clear hir hrs;refine hK.out _ _ ?_ (fun hHeld=>?_)
     ·obtain ⟨m0,m1,m2⟩:=hHeld;exact⟨((bb.cell (by show zn<_;exact hzna)).trans m0),((bb.cell (by show zn<_;exact hzna)).trans m1),((bb.cell (by show zn<_;exact hzna)).trans m2)⟩
     clear hK K
     try simp only [putS]
     refine TK 10 ?_
     try simp only [putS]
     refine wpAnyH_done (by rw [hops.out];kernel_rfl) ?_ _;clear hops ops;have STB:=hide (STA.out.below bb);have HWF:=hide (Zma HIR.out (Zd4 HOK.out));have HI11:=hide (l11_of HNF.out HBSE.out HRR.out HIR.out);have htot:=ZkQ HIR.out (Zd4 HOK.out);rw [<-Zn6] at htot;have hql:=ZhM qs;have hq147:qs.length<=147:=by omega
     clear hql;have hlo:w.heap.size<=wa.heap.size:=by have:=STA.out.size;omega
     have HRW:=hide (show ∀ q∈qs,RtWf q.1/\q.1.hops.length<=6 from fun q hq=>HWF.out q.1 (List.mem_map_of_mem hq));clear s0 s1 s2 hHeld bb HWF htot HIR HTR R1A R2A R1R R2R STR STA RN HCD hca ga HRR HBSE HNF HBF;by_cases h0:qs.length=0
     ·have h00:¬(0:Int)<(qs.length:Int):=by omega
      have h0q:=hide h0;clear h0;go_wp2;go_ret;exact⟨_,rfl,qs,_,hide (Zm3 HI11.out (by simpa [ZaY] using h0q.out)),⟨HRS.out.at.1,fun q hq=>(HRS.out.nears q hq).wide hlo (YA _),fun k hk=>YAG hlo (HRS.out.row.lt k hk).1,by omega,HRW.out⟩,STB.out.cur,STB.out.bel,STB.out.gro hwz GG1.out⟩
     ·have h00:(0:Int)<(qs.length:Int):=by omega
      go_wp2_with fail
      refine (Zfy p a len cap σ (u+ls.length+1) 6 _ STB.out.cur (by omega) (by omega)).mono ?_;rintro e wd ⟨o,rfl,HOO,hcd,gd⟩;have STD:=hide (STB.out.grown hcd gd);have ROD:=hide ((HRS.out.keep (fun k h1 h2 h3=>gd.block k h3 (by simp;omega))).wide hlo gd.size);clear hcd gd STB HRS;cases o
      ·go_wp2;go_ret;exact⟨_,qs,_,rfl,hide (ZjX HI11.out (by simpa [ZaY] using h0) HOO.out (.inl ⟨rfl,rfl⟩)),⟨ROD.out.at.1,fun q hq=>ROD.out.nears q hq,fun k hk=>(ROD.out.row.lt k hk).1,by omega,HRW.out⟩,STD.out.cur,STD.out.bel,STD.out.gro hwz GG1.out⟩
      ·obtain ⟨q,hq⟩:∃ q,qs[0]? = some q:=⟨qs[0]'(by omega),YAA _⟩;have hqm:=YAF hq;obtain⟨rb,ro,rc,hrv,hrb,e0,e1,e2,e3,e4,e5,_⟩:=ROD.out.at.cells 0 q hq;cases hrv;obtain⟨qa,qc,hqv⟩:=Zac (ROD.out.nears q hqm).1;obtain⟨qd,qv⟩:=q;simp only at hqv e0 e1 e2 e3 e4 e5;subst hqv;simp only [Nat.zero_mul,Nat.add_zero] at e0 e1 e2 e3 e4 e5;have OW:=hide (ROD.out.row.alloc (.cells (encQ (qd,.slice qa qd.hops.length qc)).toArray 57));have HQM:=hide hqm;have HQ0:=hide (show (ZaY qs)[0]? = some qd by unfold ZaY;rw [YAZ,hq];rfl);clear hq hqm
       go_wp2_with (first
        | (at_builtin;refine ZaG ZdL (by omega) (by omega) _ rfl _ _ 32 rfl w.heap.size 57 Tryz.underlying32 (.agg (rtC ZbM (.slice none 0 0))) rfl Tryz.infoRoute _ qs (qd,.slice qa qd.hops.length qc) (Zen _ _ _ _) rfl OW.out ⟨wd.heap.size,0,none⟩ 1 rfl (Zak (cs:=encQ (qd,.slice qa qd.hops.length qc))) (by omega) (by have:=STD.out.size;simp;omega) ?_))
       intro v' w' hown' hgrow hblk;obtain⟨va',vc',rfl⟩:=Zac hown';have hsd:=STD.out.size;have hal:∀ k,k<wd.heap.size->(wd.alloc (.cells (encQ (qd,.slice qa qd.hops.length qc)).toArray 57)).heap[k]? = wd.heap[k]? := fun k hk=>YAI _ _ _ hk;have TY:=TyK.grown OW.out hgrow;have CUR9:=hide ((STD.out.cur.alloc (.cells (encQ (qd,.slice qa qd.hops.length qc)).toArray 57)).grown hgrow (fun b hb he=>by have:=(OW.out.lt b he.symm).1;omega));have BEL9:=hide ((STD.out.bel.alloc (by omega) (.cells (encQ (qd,.slice qa qd.hops.length qc)).toArray 57)).grown hgrow (by simp;omega) (fun k hk=>by have:=(OW.out.lt k hk).1;omega));have GRO9:=hide (Zkx (STD.out.gro hwz GG1.out) OW.out hgrow);have NR9:=hide (fun q (h:q∈qs)=>(TY.hop ((ROD.out.nears q h).keep (fun k _ h2 h3=>hal k h3))).wide (YA _) (show wd.heap.size<=w'.heap.size by have:=hgrow.size;simp at this;omega));have OF9:=hide (fun k hk=>(hown'.lt k hk).1);have OW9:=hide (show Zaw encQ 6 w' (.slice va' (qs.length+1) vc') (qs++[(qd,.slice qa qd.hops.length qc)]) w'.heap.size from by
        have h:=hown'
        try simp only [YAM,YAd,List.length_nil,Nat.zero_add] at h
        have e:qs.length+1=(qs++[(qd,Value.slice qa qd.hops.length qc)]).length:=by simp
        rw [e] at h |-;exact Zan h)
       clear hown' hgrow hblk TY hal;go_wp2;go_ret;refine⟨.slice va' (qs.length+1) vc',qs++[(qd,Value.slice qa qd.hops.length qc)],_,rfl,hide (ZjX HI11.out (by simpa [ZaY] using h0) HOO.out (.inr ⟨rfl,qd,HQ0.out,by simp [ZaY]⟩)),⟨OW9.out,fun q hq=>?_,OF9.out,by simp;omega,fun q hq=>?_⟩,CUR9.out,BEL9.out,GRO9.out⟩
       ·rcases YAH.1 hq with h | h
        ·exact NR9.out q h
        ·rw [YAl] at h;subst h;exact NR9.out _ HQM.out
       ·rcases YAH.1 hq with h | h
        ·exact HRW.out q h
        ·rw [YAl] at h;subst h;exact HRW.out _ HQM.out
theorem ZkE {xs:List LnD}{x:LnD}(h:ZaP xs)(hx:idxZ xs x.thing x.to = -1):ZaP (xs++[x]):=by
 unfold ZaP at *;rw [YAP];refine⟨h,by simp,fun a ha b hb=>?_⟩;rw [YAl.1 hb];cases e:keyB a x with
 | false=>rfl
 | true=>
  exfalso;have h1:isLn x.thing x.to a=true:=by
   rw [Zfx] at e;simp [isLn,e.1,e.2]
  unfold idxZ at hx;cases e2:xs.findIdx? (isLn x.thing x.to) with
  | none=>
   rw [List.findIdx?_eq_none_iff] at e2;have:=e2 a ha;rw [h1] at this;cases this
  | some i=>rw [e2] at hx;simp only [] at hx;omega
theorem ZfQ :∀ (xs acc:List LnD),ZaP acc->ZaP (xs.foldl tabS acc)
 | [],acc,h=>h
 | x::xs,acc,h=>by
  rw [List.foldl_cons];refine ZfQ xs _ ?_;rcases Zi8 acc x.thing x.to with h1 | h1
  ·rw [ZhI h1];exact ZkE h h1
  ·rw [Zjw h1];exact h
theorem Ze7 (xs:List LnD):ZaP (tabD xs):=ZfQ xs [] List.Pairwise.nil
theorem CurT.later {w':World}{σ:Nat->Int}(h:CurT w p a len cap σ t)(hb:Below w.heap.size w w'):CurT w' p a len cap σ t:=
 h.grown (row:=none) ⟨hb.os,hb.tape,hb.output,hb.size,fun k hk _=>hb.block k hk⟩ (fun b _=>by simp)
theorem LnsOwn.stay {hi:Nat}{ps:List JP}(h:LnsOwn W lo hi v ps)(hg:W.grownBy W' (some p))(hp:p<lo):LnsOwn W' lo hi v ps:=
 h.keep (fun k h1 _ h3=>hg.block k h3 (by simp;omega))
theorem RtsG.weak (h:RtsG W lo v qs):RtsW W lo W.heap.size v qs:=⟨⟨h.row,fun q hq=>(h.nears q hq).at⟩,h.nears⟩
theorem Zha :∀ (qs:List QP),(∀ q∈qs,q.1.hops.length<=6)->totQ qs<=7*qs.length
 | [],_=>by simp [totQ]
 | q::qs,h=>by
  have h1:=Zha qs (fun x hx=>h x (YAe _ hx));have h2:=h q (by simp);rw [Zgn,YAd];omega
theorem RtsG.tot (h:RtsG W lo v qs):totQ qs<=7000:=by
 have h1:=Zha qs (fun q hq=>(h.wf q hq).2);have:=h.len;omega
theorem ZhJ {ps:List JP}(h:Zag ps=tabD (qs.map (fun p=>lnR p.1))):totJ ps<=totQ qs:=by
 rw [ZiI,h];refine YAG (ZnI _) ?_;rw [<-Zoi qs];unfold ZaY;rw [YAa];exact YA _
theorem LnsOwn.first {W5:World}{g:Nat}{b:JP}{bs:List JP}{u:Value}{y:Int}{o:Obj}(h:LnsOwn W lo W.heap.size (.slice (some ⟨g,0,none⟩) n cap) (b::bs))(hn:(b::bs).length=n)
  (hu:W5.ownsRow lo 3 1 u (b.1.hops++[y]).length (flat intE (b.1.hops++[y]))) (hg:(W.alloc o).grownBy W5 b.2.ownBlock) (hbk:u.ownBlock=b.2.ownBlock\/u.ownBlock=some (W.alloc o).heap.size):
  LnsOwn (W5.setCell ⟨g,2,none⟩ u) lo (W5.setCell ⟨g,2,none⟩ u).heap.size (.slice (some ⟨g,0,none⟩) n cap) (({ b.1 with hops:=b.1.hops++[y] },u)::bs):=by
 subst hn;have hsz:(W5.setCell ⟨g,2,none⟩ u).heap.size=W5.heap.size:=by simp
 have hG:=Zaj W5 g 2 u;have hbn:=(h.nears b (by simp));have hgs:=hg.size;rw [World.size_alloc] at hgs;obtain⟨cur,hcur⟩:∃ cur,W.heap[g]? = some (.cells cur 39 (0,0)):=by
  rcases h.row.2 with ⟨h0,_⟩ | ⟨g',cap',cur',hv',_,hh',_⟩
  ·cases h0
  ·cases hv';exact⟨cur',hh'⟩
 have hgl:=Zab hcur;have hne:∀ q:JP,ZaW W lo W.heap.size q->q.2.ownBlock≠some g:=fun q hq e=>Zas hq.1 hcur (by decide) e.symm;have kept:∀ k,k<W.heap.size->some k≠b.2.ownBlock->W5.heap[k]? = W.heap[k]? := fun k hk hk2=>(hg.block k (by rw [World.size_alloc];omega) hk2).trans (YAI _ _ _ hk);have row5:W5.ownsRow lo 39 3 (.slice (some ⟨g,0,none⟩) (b::bs).length cap) (b::bs).length (flat encJ (b::bs)):=Zai h.row (fun k hk=>by
  simp [Value.ownBlock] at hk;subst hk;exact kept g hgl (fun e=>hne b hbn e.symm))
 have row6:=Ziv (u:=u) (j:=2) row5 (by simp;omega);have hug:u.ownBlock≠some g:=by
  rcases hbk with e | e
  ·rw [e];exact hne b hbn
  ·rw [e,World.size_alloc];intro e2;simp at e2;omega
 have hlen:(({ b.1 with hops:=b.1.hops++[y] },u)::bs:List JP).length=(b::bs).length:=rfl;refine⟨?_,fun k hk=>?_,fun q hq=>?_,?_⟩
 ·rw [hlen];exact row6
 ·simp [Value.ownBlock] at hk;subst hk;rw [hsz];omega
 ·rcases YAR.1 hq with rfl | h1
  ·refine ⟨Zai hu (fun k hk=>hG.block k (hu.lt k hk).2 (fun e=>hug (by rw [hk,e]))),fun k hk=>by rw [hsz];exact (hu.lt k hk).2⟩
  ·have hq2:=h.nears q (YAe _ h1);have hap:=h.apart;rw [YAh] at hap;have e5:W5.ownsRow lo 3 1 q.2 q.1.hops.length (flat intE q.1.hops):=Zai hq2.1 (fun k hk=>kept k (hq2.2 k hk) (fun e=>hap.1 q h1 k e.symm hk));exact⟨Zai e5 (fun k hk=>hG.block k (e5.lt k hk).2 (fun e=>hne q hq2 (by rw [hk,e]))),fun k hk=>by rw [hsz];have:=hq2.2 k hk;omega⟩
 ·have hap:=h.apart;rw [YAh] at hap |-;refine⟨fun q hq k hk e=>?_,hap.2⟩;rcases hbk with e2 | e2
  ·exact hap.1 q hq k (e2 ▸ hk) e
  ·have h3:=(h.nears q (YAe _ hq)).2 k e;have h4:u.ownBlock=some k:=hk;rw [e2,World.size_alloc] at h4;simp at h4;omega
theorem Zop (w:World):∀ j u,(intE 6)[j]? = some u->(w.alloc (.cells #[.int .i64 6] 3)).cell? ((⟨w.heap.size,0,none⟩:Addr).add j)=some u:=by
 intro j u h
 match j,h with
 | 0,h=>cases h;exact Zaa (YAE w (.cells #[.int .i64 6] 3)) 0
def TwoD (lo:Nat)(v1 v2:Value)(W:World):Prop:=
 ∃ ps qs:List JP,LnsOwn W lo W.heap.size v1 ps/\LnsOwn W lo W.heap.size v2 qs/\ZaP (Zag ps)/\ZaP (Zag qs)/\totJ ps<=7000/\totJ qs<=7001
theorem ZkF (a:Option Addr)(len cap:Nat)(w:World)(hc:Code w a len w.heap.size):
  Calls Tryz.prog 14 #[.slice a len cap] w fun e w'=>∃ v1 v2,e=.returned (.tuple #[v1,v2])/\TwoD w.heap.size v1 v2 w'/\Below w.heap.size w w':=by
 obtain⟨B,hB⟩:=hc.bytes;have HN:=hide (Zl1 w.heap.size a len cap B w rfl hB);clear hc hB
 go_enter Tryz.func14,Tryz.ntmps14
 go_wp2_with fail
 refine HN.out.mono ?_;rintro e w1 ⟨rfl,hc1,b1⟩;obtain⟨σ,hσ⟩:∃ σ,σ=strm len B (0,Zgt len B (min len 4000)):=⟨_,rfl⟩;rw [<-hσ] at hc1;obtain⟨p,hp⟩:∃ p,p=w.heap.size:=⟨_,rfl⟩;rw [<-hp] at hc1 b1 |-;have hpw1:=hc1.lt;have CU1:=hide hc1;have BB1:=hide b1;have HPW:=hide hp;clear hσ hc1 b1 HN hp
 go_wp2_with fail
 refine (Zjb p a len cap σ 0 _ CU1.out).mono ?_;rintro e w2 ⟨x1,qs1,y1,rfl,_,hg1,hc2,b2,g2⟩;obtain⟨xa,xc,rfl⟩:∃ xa xc,x1=.slice xa qs1.length xc:=by obtain ⟨a,c,h,_⟩:=hg1.row;exact⟨a,c,h⟩
 have hs2:=g2.size;have CU2:=hide hc2;have BB2:=hide (BB1.out.trans b2);have HT1:=hide (Ze5 (.slice xa qs1.length xc) qs1 w1.heap.size w2.heap.size w2 hg1.weak (YA _) (by have:=hg1.tot;omega));have TT1:=hide hg1.tot;clear hg1 hc2 b2 g2 CU1 BB1
 go_wp2_with fail
 refine HT1.out.mono ?_;rintro e w3 ⟨u1,ps,rfl,hf1,ho1,b3⟩;obtain⟨pa,pc,rfl⟩:=Zac ho1.row;have hs3:=b3.size;have CU3:=hide (CU2.out.later b3);have BB3:=hide (BB2.out.trans (b3.mono (by omega)));have HO3:=hide (ho1.wide (show w1.heap.size<=w2.heap.size from hs2) (YA _));have KY1:=hide (show ZaP (Zag ps) by rw [hf1];exact Ze7 _);have TP1:=hide (show totJ ps<=7000 from YAG (ZhJ hf1) TT1.out);clear hf1 ho1 b3 HT1 CU2 BB2 TT1
 go_wp2_with fail
 refine (Zjb p a len cap σ y1 _ CU3.out).mono ?_;rintro e w4 ⟨x2,qs2,y2,rfl,_,hg2,hc4,b4,g4⟩;obtain⟨za,zc,rfl⟩:∃ xa xc,x2=.slice xa qs2.length xc:=by obtain ⟨a,c,h,_⟩:=hg2.row;exact⟨a,c,h⟩
 have hs4:=g4.size;have CU4:=hide hc4;have BB4:=hide (BB3.out.trans b4);have HO4:=hide (HO3.out.stay g4 hpw1);have HT2:=hide (Ze5 (.slice za qs2.length zc) qs2 w3.heap.size w4.heap.size w4 hg2.weak (YA _) (by have:=hg2.tot;omega));have TT2:=hide hg2.tot;clear hg2 hc4 b4 g4 CU3 BB3 HO3
 go_wp2_with fail
 refine HT2.out.mono ?_;rintro e w5 ⟨u2,qs,rfl,hf2,ho2,b5⟩;obtain⟨qa,qc,rfl⟩:=Zac ho2.row;have hs5:=b5.size;have CU5:=hide (CU4.out.later b5);have BB5:=hide (BB4.out.trans (b5.mono (by omega)));have HO5:=hide (HO4.out.below b5 hs4);have HQ5:=hide (ho2.wide (show w1.heap.size<=w4.heap.size by omega) (YA _));have KY2:=hide (show ZaP (Zag qs) by rw [hf2];exact Ze7 _);have TP2:=hide (show totJ qs<=7000 from YAG (ZhJ hf2) TT2.out);clear hf2 ho2 b5 HT2 CU4 BB4 HO4 TT2
 go_wp2_with fail
 refine (Zfy p a len cap σ y2 3 _ CU5.out (by omega) (by omega)).mono ?_;rintro e w6 ⟨o,rfl,_,hc6,g6⟩;have hs6:=g6.size;have BB6:=hide (BB5.out.grown g6 (by have:=CU5.out.lt;omega) (fun k hk=>by simp at hk;omega));have HO6:=hide ((HO5.out.stay g6 hpw1).wide (YA _) (show w3.heap.size<=w6.heap.size by omega));have HQ6:=hide ((HQ5.out.stay g6 hpw1).wide (YA _) hs6);have hw1:w.heap.size<=w1.heap.size:=by have:=HPW.out;omega
 clear hc6 g6 CU5 BB5 HO5 HQ5;cases o
 ·go_wp2
  go_returns
  rw [HPW.out] at BB6;exact⟨_,_,rfl,⟨ps,qs,HO6.out.wide hw1 (YA _),HQ6.out.wide hw1 (YA _),KY1.out,KY2.out,TP1.out,by have:=TP2.out;omega⟩,BB6.out⟩
 ·clear HQ6 KY2 TP2;have ba:=(YAB w6.heap.size w6).alloc (YA _) (.cells #[] 41);have HA:=hide (Zjo (.slice pa ps.length pc) (some ⟨w6.heap.size,0,none⟩) 0 ps w1.heap.size w6.heap.size (w6.alloc (.cells #[] 41)) (HO6.out.below ba (YA _)) (by simp) (by have:=TP1.out;omega));have BA:=hide ba;clear ba
  go_wp2_with fail
  refine HA.out.mono ?_;rintro e w7 ⟨u7,rs,rfl,hf7,ho7,b7⟩;obtain⟨ra,rc,rfl⟩:=Zac ho7.row;have b67:=BA.out.trans (b7.mono (by simp));have hs7:=b67.size;have BB7:=hide (BB6.out.trans (b67.mono (by omega)));have HO7:=hide (HO6.out.below b67 (YA _));have HR7:=hide (ho7.wide (show w6.heap.size<=(w6.alloc (.cells #[] 41)).heap.size by simp) (YA _));have KY7:=hide (show ZaP (Zag rs) by rw [hf7];exact KY1.out);have TP7:=hide (show totJ rs<=7000 by rw [ZiI,hf7, <-ZiI];exact TP1.out);clear hf7 ho7 b7 b67 HA BB6 HO6;cases rs with
  | nil=>
   have h00:¬(0:Int)<(([]:List JP).length:Int):=by simp
   go_wp2
   go_returns
   rw [HPW.out] at BB7;exact⟨_,_,rfl,⟨ps,[],(HO7.out.wide hw1 hs7),(HR7.out.wide (by omega) (YA _)),KY1.out,KY7.out,TP1.out,by have:=TP7.out;omega⟩,BB7.out⟩
  | cons b bs=>
   have h00:(0:Int)<((b::bs:List JP).length:Int):=by simp
   obtain⟨gr,gc,hue,hgr1,hgl⟩:=ZbC HR7.out.row (by simp);cases hue;have hcell:w7.cell? ⟨gr,0*3+2,none⟩=some b.2:=by
    rw [HR7.out.row.cellAt _ (by simp;try omega),Zbi Zb6 _ 0 2 b rfl (by omega)];rfl
   rw [show 0*3+2=2 from rfl] at hcell;have hfz:w7.frozen? ⟨gr,2,none⟩=false:=by
    obtain⟨cur,hh⟩:∃ cur,w7.heap[gr]? = some (.cells cur 39 (0,0)):=by
     rcases HR7.out.row.2 with ⟨h0,_⟩ | ⟨g',cap',cur',hv',_,hh',_⟩
     ·cases h0
     ·cases hv';exact⟨cur',hh'⟩
    exact Zae hh 2
   obtain⟨ha,hc,hbe⟩:=Zac (HR7.out.nears b (by simp)).1;have HBE:=hide hbe;rw [hbe] at hcell;obtain⟨N,hN⟩:∃ N,N=(b::bs:List JP).length:=⟨_,rfl⟩;have hgr7:gr<w7.heap.size:=hgl;have hbl:=ZbO (ps:=b::bs) (p:=b) (by simp);have hbk:b.1.hops.length<=7000:=by have:=TP7.out;omega
   have OB:=hide (show (w7.alloc (.cells #[.int .i64 6] 3)).ownsRow w6.heap.size 3 1 (.slice ha b.1.hops.length hc) b.1.hops.length (flat intE b.1.hops) from by rw [<-HBE.out];exact (HR7.out.nears b (by simp)).1.alloc _);have hbs:w6.heap.size<=(w7.alloc (.cells #[.int .i64 6] 3)).heap.size:=by simp;omega
   clear hbl;have X:=@ZaG Int intE 1 8 (fun _=>rfl) (by omega) (by omega) Tryz.prog;have hone:∀ u∈intE 6,u.oneCell'=true:=by intro u hu;simp [intE] at hu;subst hu;rfl
   have hl9:b.1.hops.length+1<=1000000000:=by omega
   have hnw:=Zop w7;have hu9:=Tryz.underlying37;have hi9:=Tryz.info3;obtain⟨zv0,hzv0⟩:∃ z,z=Value.int .i64 0:=⟨_,rfl⟩;have hz9:zv0.cells.size=1:=by rw [hzv0];rfl
   rw [<-hzv0] at hi9;have hne:=(ZfT (HR7.out.nears b (by simp)) HR7.out.row);have HNE:=hide hne;clear hne
   go_wp2_with (at_builtin;refine X _ rfl _ _ 37 rfl w6.heap.size 3 hu9 zv0 hz9 hi9 _ b.1.hops 6 hone rfl OB.out _ 1 rfl hnw hl9 hbs ?_)
   intro v8 w8 ho8 hg8 hb8;obtain⟨va8,vc8,rfl⟩:=Zac ho8;have hg9:(w7.alloc (.cells #[.int .i64 6] 3)).grownBy w8 b.2.ownBlock:=by rw [HBE.out];exact hg8
   have hb9:(Value.slice va8 (b.1.hops.length+1) vc8).ownBlock=b.2.ownBlock\/(Value.slice va8 (b.1.hops.length+1) vc8).ownBlock=some (w7.alloc (.cells #[.int .i64 6] 3)).heap.size:=by rw [HBE.out,World.size_alloc];exact hb8
   have ho9:w8.ownsRow w6.heap.size 3 1 (.slice va8 (b.1.hops.length+1) vc8) (b.1.hops++[6]).length (flat intE (b.1.hops++[6])):=by rw [YAM];exact ho8
   have HF:=hide (HR7.out.first rfl ho9 hg9 hb9);have hs8:=hg9.size;rw [World.size_alloc] at hs8;have hblk:w8.heap[gr]? = w7.heap[gr]? := (hg9.block gr (by rw [World.size_alloc];omega) (fun e=>HNE.out gr e.symm rfl)).trans (YAI _ _ _ hgr7);have hcell8:w8.cell? ⟨gr,2,none⟩=some (.slice ha b.1.hops.length hc):=by rw [<-hcell];unfold World.cell?;simp only [hblk]
   have hfz8:w8.frozen? ⟨gr,2,none⟩=false:=by rw [<-hfz];unfold World.frozen?;simp only [hblk]
   have HHO:=hide (HO7.out.keep (W':=w8.setCell ⟨gr,2,none⟩ (.slice va8 (b.1.hops.length+1) vc8)) (fun k h1 h2 h3=>by
    rw [(Zaj w8 gr 2 (.slice va8 (b.1.hops.length+1) vc8)).block k (by omega) (by simp;omega)];refine (hg9.block k (by rw [World.size_alloc];omega) (fun e=>?_)).trans (YAI _ _ _ h3);have:=((HR7.out.nears b (by simp)).1.lt k e.symm).1;omega))
   have HBW:=hide (show Below p w (w8.setCell ⟨gr,2,none⟩ (.slice va8 (b.1.hops.length+1) vc8)) from ((BB7.out.alloc (by omega) _).grown hg9 (by rw [World.size_alloc];omega) (fun k hk=>by have:=((HR7.out.nears b (by simp)).1.lt k hk).1;omega)).setCell (by show p<=gr;omega) _);clear ho8 ho9 hg8 hb8 hg9 hb9 hblk hcell hfz X hone hl9 hnw hu9 hi9 hz9;go_wp2
   go_returns
   have hz8:(w8.setCell ⟨gr,2,none⟩ (.slice va8 (b.1.hops.length+1) vc8)).heap.size=w8.heap.size:=by simp
   rw [HPW.out] at HBW;refine⟨_,_,rfl,⟨ps,({ b.1 with hops:=b.1.hops++[6] },.slice va8 (b.1.hops.length+1) vc8)::bs,HHO.out.wide hw1 (by omega),HF.out.wide (by omega) (YA _),KY1.out,?_,TP1.out,?_⟩,HBW.out⟩
   ·have h9:=KY7.out;unfold ZaP Zag at h9 |-;rw [List.map_cons,YAh] at h9 |-;exact⟨fun y hy=>h9.1 y hy,h9.2⟩
   ·have h9:=TP7.out;rw [Zgm] at h9 |-;simp only [YAM,YAd,List.length_nil];omega
theorem Zkp (a:Option Addr)(len cap:Nat)(w:World)(hc:Code w a len w.heap.size):
  Calls Tryz.prog 5 #[.slice a len cap] w fun e w'=>∃ v1 v2,e=.returned (.tuple #[v1,v2])/\TwoD w.heap.size v1 v2 w'/\Below w.heap.size w w':=by
 have HT:=hide (ZkF a len cap w hc);clear hc
 go_enter Tryz.func5,Tryz.ntmps5
 go_wp2_with fail
 refine HT.out.mono ?_;rintro e w1 ⟨v1,v2,rfl,hd,hb⟩;have HD:=hide hd;have HB:=hide hb;clear hd hb HT;go_wp2
 go_returns
 exact⟨_,_,rfl,HD.out,HB.out⟩
theorem ZgL (a:Option Addr)(len cap:Nat)(B:Nat->Int)(w:World)(hc:ZfA w a len w.heap.size B):
  Calls Tryz.prog 11 #[.slice a len cap] w fun e w'=>∃ x qs y,e=.returned x/\Hid (L11R (strm len B (0,Zgt len B (min len 4000))) 0 (ZaY qs) y)/\RtsG w' w.heap.size x qs/\Below w.heap.size w w':=by
 obtain⟨σ,hσ⟩:∃ σ,σ=strm len B (0,Zgt len B (min len 4000)):=⟨_,rfl⟩;have HN:=hide (Zl1 w.heap.size a len cap B w rfl hc);rw [<-hσ] at HN |-;obtain⟨p,hp⟩:∃ p,p=w.heap.size:=⟨_,rfl⟩;rw [<-hp] at HN |-;have HPW:=hide hp;clear hσ hc hp
 go_enter Tryz.func11,Tryz.ntmps11
 go_wp2_with fail
 refine HN.out.mono ?_;rintro e w1 ⟨rfl,hc1,b1⟩;have hpw1:=hc1.lt;have CU1:=hide hc1;have BB1:=hide b1;clear hc1 b1 HN
 go_wp2_with fail
 refine (Zjb p a len cap σ 0 _ CU1.out).mono ?_;rintro e w2 ⟨x1,qs1,y1,rfl,HL,hg1,hc2,b2,g2⟩;obtain⟨xa,xc,rfl⟩:∃ xa xc,x1=.slice xa qs1.length xc:=by obtain ⟨a,c,h,_⟩:=hg1.row;exact⟨a,c,h⟩
 have HG:=hide hg1;have HB:=hide (BB1.out.trans b2);clear hg1 hc2 b2 g2 CU1 BB1;go_wp2;go_ret;exact⟨_,qs1,y1,rfl,HL,⟨HG.out.row,fun q hq=>(HG.out.nears q hq).wide (by omega) (YA _),fun k hk=>by have:=HG.out.off k hk;omega,HG.out.len,HG.out.wf⟩,HB.out⟩
end Go.Proofs.YtdhnddfnckgbjaaGreat
