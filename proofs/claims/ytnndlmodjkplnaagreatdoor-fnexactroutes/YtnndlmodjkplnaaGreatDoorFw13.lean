/-
  NodeSp WMath PlaceK PlaceJ FindK NodeS
-/
import Derived.Test.YtnndlmodjkplnaaGreatDoorFw10
import Derived.Test.YtnndlmodjkplnaaGreatDoorFw12
import Derived.Test.YtnndlmodjkplnaaGreatDoorFw1
import Derived.Test.YtnndlmodjkplnaaGreatDoorFw4
import Derived.Test.YtnndlmodjkplnaaGreatDoorFw7
import Derived.Test.YtnndlmodjkplnaaGreatDoorFw8
namespace Go.Proofs.YtnndlmodjkplnaaGreatDoor
open Go.RowKit
set_option linter.unusedSimpArgs false
set_option linter.unusedVariables false
set_option maxRecDepth 100000
set_option maxHeartbeats 8000000
theorem ZgA {P:Program}{ops:Array Oper}{o:Oper}{a:Act}{w:World}{K:Act->World->Prop}{Q:Exit->Act->World->Prop}{E:Prop}(hgd:o.guard=none)(s x:Operand)(t:TypeId)
  (ho:o.op=.call { callee:=.builtin .append,args:=#[s,x],argTypes:=#[t,t] }) (base:Nat) (e:TypeId) (ht:P.underlying t=some (.slice e))
  (hinfo:(P.info? e).map (fun i=>(i.zero,i.size,i.bytes))=some (some (.int .i64 0),1,8))
  (v:Value) (l:List Int) (y1 y2:Int) (hs:a.eval s=v) (hown:w.ownsRow base e 1 v l.length (flat intE l))
  (ad:Addr) (c:Nat) (hx:a.eval x=.slice (some ad) 2 c) (hnews:∀ j u,([.int .i64 y1,.int .i64 y2]:List Value)[j]? = some u->w.cell? (ad.add j)=some u)
  (hl:l.length+2<=1000000000) (hbase:base<=w.heap.size)
  (h:∀ v' w',w'.ownsRow base e 1 v' (l++[y1,y2]).length (flat intE (l++[y1,y2]))->w.grownBy w' v.ownBlock->K (a.put o.dst v') w'):
  if Region.wanted o (yielded ops a.tmps)=true then Oper.wp P o a w K Q else E:=by
 have hw:Region.wanted o (yielded ops a.tmps)=true:=by simp [Region.wanted,hgd]
 rw [if_pos hw];obtain⟨i0,hi,hz0,hz1,hz2⟩:=info_parts hinfo;refine wp_append_own w s x t ho base e i0 (.int .i64 0) 1 8 ht hi hz0 hz1 hz2 rfl (by decide) v l.length (flat intE l) hs hown ad 2 c [.int .i64 y1,.int .i64 y2] hx rfl hnews (by simp [Value.oneCell']) (by unfold maxLen;omega) (by omega) hbase ?_
 intro v' w' h1 h2 _;have e1:flat intE l++[.int .i64 y1,.int .i64 y2]=flat intE (l++[y1,y2]):=by rw [ZaK];simp [flat,intE]
 rw [e1] at h1;exact h v' w' (by simpa using h1) h2
theorem Zks (v5:Value)(es:List Th)(w:World)(hE:es.length<=1048576)(hv:ZaP w v5 es w.heap.size):
  Calls Tryz.prog 22 #[v5] w fun e w'=>∃ u,e=.returned u/\w'.ownsRow w.heap.size 3 1 u (Zbc es).length (flat intE (Zbc es))/\Below w.heap.size w w':=by
 obtain⟨a5,c5,rfl⟩:=hv.shape;have HV:=hide hv;clear hv;have R0:=hide (World.ownsRow_lit (base:=w.heap.size) w (#[]:Array Value) 0 (Nat.le_refl _) (by decide) (e:=3) (size:=1) rfl)
 have B0:=hide ((Below.refl w.heap.size w).alloc (Nat.le_refl _) (.cells #[] 3))
 go_enter Tryz.func22,Tryz.ntmps22
 go_wp2
 go_loopw [4,3] (fun i o wr=>∃ (k:Nat) (u:Value) (hs:List Int),k<=es.length/\i=.int .i64 (k:Int)/\o=u/\Hid (hs=Zbc (es.take k))/\hs.length<=2*k/\wr.ownsRow w.heap.size 3 1 u hs.length (flat intE hs)/\Below w.heap.size w wr) (fun i _ _=>es.length-(intOf i).toNat)
 case atStart=>exact ⟨0,_,[],by omega,rfl,rfl,hide (by simp [Zbc]),by simp,R0.out,B0.out⟩
 case round=>
  clear R0 B0;obtain⟨k,u,hs,hk,rfl,rfl,HQ,hql,hown,hnx⟩:=hrel;obtain⟨xa,xc,rfl⟩:=Zac hown;have hsz:=hnx.size;by_cases hlt:k<es.length
  ·obtain ⟨e,hp⟩:∃ e,es[k]? = some e:=⟨es[k],List.getElem?_eq_getElem hlt⟩
   obtain⟨bb,off,cp,hve,hbb,d0,d1,d2,d3⟩:=HV.out.cells k e hp;cases hve
   obtain⟨eo,ek,ec,ef⟩:=e;rw [<-hnx.cell (p:=⟨bb,off+k*4,none⟩) hbb] at d0;rw [<-hnx.cell (p:=⟨bb,off+k*4+1,none⟩) hbb] at d1;rw [<-hnx.cell (p:=⟨bb,off+k*4+3,none⟩) hbb] at d3;simp only [] at d0 d1 d3
   clear d2;have hki:(0:Int)<=(k:Int):=by omega
   have hkj:(k:Int)<(es.length:Int):=by omega
   have HP:=hide hp;cases ef with
   | false=>
    have HL:=hide (show hs=Zbc (es.take (k+1)) by rw [ZiT HP.out rfl, <-HQ.out])
    have N1:=hide hown;have N2:=hide hnx;clear hp hown hnx HQ
    go_wp2
    go_roundw
    case rel=>exact ⟨k+1,_,hs,by omega,by go_num,rfl,HL,by omega,N1.out,N2.out⟩
    case measure=>simp [intOf];omega
   | true=>
    have HN:=hide (Zg8 HP.out (show (⟨eo,ek,ec,true⟩:Th).f=true from rfl))
    have HOW:=hide hown;have HNX:=hide hnx;have HNE:some bb≠(Value.slice xa hs.length xc).ownBlock:=fun e=>by have:=(HOW.out.lt bb e.symm).1;omega
    have hbr:bb<wr.heap.size:=by omega
    have hhl:hs.length+2<=1000000000:=by omega
    clear hp hown hnx
    go_wp2
    go_region_held3 (fun W=>W.cell? ⟨bb,off+k*4,none⟩=some (.int .i64 eo)/\W.cell? ⟨bb,off+k*4+1,none⟩=some (.int .i64 ek)) (first | go_keep | exact ⟨hgrow.cell ((((Below.refl wr.heap.size wr).alloc (Nat.le_refl _) _).drew.cell hbr).trans d0) HNE,hgrow.cell ((((Below.refl wr.heap.size wr).alloc (Nat.le_refl _) _).drew.cell hbr).trans d1) HNE⟩) (first | (refine ZgA rfl _ _ 26 rfl w.heap.size 3 Tryz.underlying26 Tryz.info3 (.slice xa hs.length xc) hs eo ek rfl ?_ ⟨wr.heap.size,0,none⟩ 2 rfl ?_ ?_ ?_ ?_;(exact (HOW.out.alloc _).drew);(exact Zaz (cs:=[.int .i64 eo,.int .i64 ek]));(exact hhl);(simp;omega);intro v' w1 hown' hgrow))
    have hgs:=hgrow.size;simp at hgs
    have BF:Below w.heap.size w w1:=(HNX.out.alloc hsz _).drew.grown hgrow (by simp;omega) (fun k hk=>(HOW.out.lt k hk).1)
    have HO:=hide hown';have HL:=hide (show hs++[eo,ek]=Zbc (es.take (k+1)) by rw [HN.out, <-HQ.out])
    clear hown' hgrow
    go_wp2
    go_roundw
    case rel=>exact ⟨k+1,v',hs++[eo,ek],by omega,by go_num,rfl,HL,by simp;omega,HO.out,BF⟩
    case measure=>simp [intOf];omega
  ·have hkn:¬(k:Int)<(es.length:Int):=by omega
   have HE:=hide (show hs=Zbc es from by rw [HQ.out,List.take_of_length_le (by omega)])
   have HO:=hide hown;have HN:=hide hnx;clear hown hnx HQ
   go_wp2
   go_ret
   rw [<-HE.out];exact⟨_,rfl,HO.out,HN.out⟩
def Zcf (es fs:List Th):Prop:=fs.length<=es.length/\∀ (i:Nat) (e f:Th),es[i]? = some e->fs[i]? = some f->Zbe e f=true
theorem Zcf.nil (es:List Th):Zcf es []:=⟨Nat.zero_le _,fun i e f _ h=>by simp at h⟩
theorem Zcf.push {es fs:List Th}{e f:Th}(h:Zcf es fs)(he:es[fs.length]? = some e)(ho:Zbe e f=true):Zcf es (fs++[f]):=by
 have hl:=(List.getElem?_eq_some_iff.1 he).1;refine⟨by simp;omega,fun i e' f' he' hf'=>?_⟩
 by_cases hi:i<fs.length
 ·rw [List.getElem?_append_left hi] at hf'
  exact h.2 i e' f' he' hf'
 ·have hi2:i<(fs++[f]).length:=(List.getElem?_eq_some_iff.1 hf').1
  have:i=fs.length:=by simp at hi2;omega
  subst this;rw [he] at he';cases he'
  rw [List.getElem?_append_right (Nat.le_refl _)] at hf';simp at hf'
  rw [<-hf'];exact ho
theorem Zcf.end {es fs:List Th}(h:Zcf es fs):ZbK es fs=decide (fs.length=es.length):=by
 by_cases hl:fs.length=es.length
 ·rw [decide_eq_true hl]
  exact (Zda es fs).2 ⟨hl.symm,h.2⟩
 ·rw [decide_eq_false hl]
  exact Zfg (fun e=>hl e.symm)
theorem Znt {es fs l:List Th}{f:Th}(h:es.length<=fs.length\/∃ e,es[fs.length]? = some e/\Zbe e f=false):ZbK es (fs++[f]++l)=false:=by
 rcases h with h | ⟨e,he,ho⟩
 ·exact Zfg (by simp;omega)
 ·refine Zi7 he (f:=f) (by rw [List.append_assoc,List.getElem?_append_right (Nat.le_refl _)];simp) ho
theorem Zm8 {ls:List Lk}{id:Int}{N v a:Nat}{f:Th}(hv1:1<=v)(hvN:v<=N)(ha:a<3)(h:Zav ls id (3*(v-1)+a+1)=Zav ls id (3*(v-1)+a)++[f]):∃ l,Zav ls id (3*N)=Zav ls id (3*(v-1)+a)++[f]++l:=by
 obtain⟨l,hl⟩:=ZiO ls id (3*(v-1)+a+1) (3*N-(3*(v-1)+a+1));refine⟨l,?_⟩
 rw [<-h, <-hl]
 congr 1
 omega
theorem Zku (v1 v2 v3 v4 v5:Value)(x:SelfD)(ps:List RP)(es:List Th)(w:World)(ht:Zbm x ps es<=1048576)(hv:NodeIn w v1 v2 v3 v4 v5 x ps es w.heap.size):
  Calls Tryz.prog 6 #[Zd8 x v1 v2 v3 v4 v5] w fun e w'=>e=.returned (.bool (Zbh x ps es x.net.n.toNat))/\Below w.heap.size w w':=by
 obtain⟨⟨a1,c1,rfl⟩,⟨a2,c2,rfl⟩,⟨a3,c3,rfl⟩,⟨a4,c4,rfl⟩,⟨a5,c5,rfl⟩⟩:=hv.shapes;have hS:totS x ps<=1048576:=by unfold Zbm at ht;omega
 have hE:es.length<=1048576:=by unfold Zbm at ht;omega
 have hH:x.heard.length<=1048576:=by unfold Zbm totS at ht;omega
 have hL:x.net.ls.length<=1048576:=by unfold Zbm totS at ht;omega
 have HSO:=hide (fun W (hb:Below w.heap.size w W)=>Zkw _ _ _ _ x ps W hS (hv.then hb).self)
 obtain⟨R,hR⟩:∃ R,R=Zbh x ps es x.net.n.toNat:=⟨_,rfl⟩;rw [<-hR];have HR:=hide hR;clear hR;have B0:∀ o,Below w.heap.size w (w.alloc o):=fun o=>(Below.refl _ _).alloc (Nat.le_refl _) _
 cases hs:Zcw x ps with
 | false=>
  have HF:=hide (show R=false by rw [HR.out];unfold Zbh;rw [hs];rfl)
  rw [hs] at HSO;clear hs hv ht hS hE hH hL
  go_enter Tryz.func6,Tryz.ntmps6
  go_wp2_with fail
  refine (HSO.out _ (B0 _)).mono ?_
  rintro e w1 ⟨rfl,b1⟩;have B1:Below w.heap.size w w1:=(B0 _).trans (b1.mono (B0 _).size)
  go_wp2
  go_ret
  exact⟨Zag HF.out,B1⟩
 | true=>
  have hn:=ZnX hs;obtain⟨N,hN⟩:∃ N:Nat,x.net.n=(N:Int):=⟨x.net.n.toNat,by omega⟩
  have hN6:N<=6:=by omega
  have HLK:=hide (show ∀ l∈x.net.ls,Za6 x.net.n l=true from by
   unfold Zcw Zbq at hs;simp only [Bool.and_eq_true] at hs
   exact Zfe hs.1.1.2)
  have HR2:=hide (show R=(ZbK es (Zav x.net.ls x.id (3*N))&&decide (x.heard=Zbc es)) by rw [HR.out];unfold Zbh;rw [hs,hN];rfl)
  have HCO:=hide (fun (t r:Int) W (hb:Below w.heap.size w W)=>Zgt (.int .i64 (N:Int)) (.slice a1 x.net.ls.length c1) (.slice a2 x.net.ts.length c2) x.net.ls x.id t r W hL (hv.then hb).self.links)
  have HNN:=hide (fun t r=>ZjQ HLK.out x.id t r)
  have HE:=hide (fun W (hb:Below w.heap.size w W)=>(hv.then hb).ears)
  have HHE:=hide (fun W (hb:Below w.heap.size w W)=>Zks _ es W hE (hv.then hb).ears)
  have HSI:=hide (fun (u:Value) W (hb:Below w.heap.size w W) (hu:Zeb W u (Zbc es) W.heap.size)=>Zmf _ u x.heard _ W (ZaG.ints (hv.then hb).self.heard) hu hH)
  rw [hs] at HSO;clear hs hv ht hS hH hL HR HLK hn;obtain⟨xid,xboot,⟨xn,xls,xts⟩,xh⟩:=x;simp only [] at hN HR2 HCO HNN HSI HSO |-
  subst hN;have g0:=heap_alloc_new w (.cells #[.int .i64 xid,.int .i64 xboot,.int .i64 (N:Int),.slice a1 xls.length c1,.slice a2 xts.length c2,.slice a3 xh.length c3,.slice a4 ps.length c4,.slice a5 es.length c5] 44)
  go_enter Tryz.func6,Tryz.ntmps6
  go_wp2_with fail
  have HB0:=B0 (.cells #[.int .i64 xid,.int .i64 xboot,.int .i64 (N:Int),.slice a1 xls.length c1,.slice a2 xts.length c2,.slice a3 xh.length c3,.slice a4 ps.length c4,.slice a5 es.length c5] 44);obtain⟨w0,hw0⟩:∃ W,W=w.alloc (.cells #[.int .i64 xid,.int .i64 xboot,.int .i64 (N:Int),.slice a1 xls.length c1,.slice a2 xts.length c2,.slice a3 xh.length c3,.slice a4 ps.length c4,.slice a5 es.length c5] 44):=⟨_,rfl⟩;rw [<-hw0] at HB0 g0 |-;clear hw0 B0;refine (HSO.out _ HB0).mono ?_
  rintro e w1 ⟨rfl,b1⟩;have B1:Below w.heap.size w w1:=HB0.trans (b1.mono HB0.size);have g1:=(b1.block _ (Zab g0)).trans g0;have m2:=Zaa g1 2;have m3:=Zaa g1 3;have m4:=Zaa g1 4;simp at m2 m3 m4
  have hz1:=Zab g1;have BN:Below w1.heap.size w1 (w1.alloc (.cells #[.int .i64 (N:Int),.slice a1 xls.length c1,.slice a2 xts.length c2] 38)):=(Below.refl _ _).alloc (Nat.le_refl _) _;have gn:=heap_alloc_new w1 (.cells #[.int .i64 (N:Int),.slice a1 xls.length c1,.slice a2 xts.length c2] 38);have gb:=(BN.block _ hz1).trans g1;have B2:Below w.heap.size w (w1.alloc (.cells #[.int .i64 (N:Int),.slice a1 xls.length c1,.slice a2 xts.length c2] 38)):=B1.trans (BN.mono B1.size);have GN:=hide gn;have GB:=hide gb;have HB2:=hide B2;clear b1 g0 g1 gn gb HB0 HSO B1 BN B2
  go_wp2
  obtain⟨z,hz⟩:∃ z,z=w1.heap.size:=⟨_,rfl⟩;obtain⟨w2,hw2⟩:∃ W,W=w1.alloc (.cells #[.int .i64 (N:Int),.slice a1 xls.length c1,.slice a2 xts.length c2] 38):=⟨_,rfl⟩;rw [<-hw2] at HB2 GN GB;rw [<-hz] at GN
  first
   | rw [<-hw2]
   | skip
  first
   | rw [<-hz]
   | skip
  clear hw2 hz m2 m3 m4
  go_loopw [5,3] (fun i o wr=>∃ (v:Nat) (k:Nat),1<=v/\v<=N+1/\i=.int .i64 (v:Int)/\o=.int .i64 (k:Int)/\Hid (k=(Zav xls xid (3*(v-1))).length)/\k<=30/\Hid (Zcf es (Zav xls xid (3*(v-1))))/\Below w2.heap.size w2 wr) (fun i _ _=>8-(intOf i).toNat)
  case atStart=>exact ⟨1,0,by omega,by omega,rfl,rfl,hide rfl,by omega,hide (Zcf.nil _),Below.refl _ _⟩
  case round=>
   rename World=>wa
   obtain⟨v,k,hv1,hvN,rfl,rfl,HK,hk30,HM,hba⟩:=hrel;have gna:=(hba.block _ (Zab GN.out)).trans GN.out;have gba:=(hba.block _ (Zab GB.out)).trans GB.out;have n0:=Zaa gna 0;simp at n0
   by_cases hlt:v<=N
   ·have hltI:(v:Int)<=(N:Int):=by omega
    have HBA:=hide hba;clear hba gna gba
    go_wp2
    go_loopw [6,3] (fun i o wr=>∃ (a:Nat) (k:Nat),a<=3/\i=.int .i64 (a:Int)/\o=.int .i64 (k:Int)/\Hid (k=(Zav xls xid (3*(v-1)+a)).length)/\k<=30/\Hid (Zcf es (Zav xls xid (3*(v-1)+a)))/\Below w2.heap.size w2 wr) (fun i _ _=>4-(intOf i).toNat)
    case atStart=>exact ⟨0,k,by omega,rfl,rfl,HK,hk30,HM,HBA.out⟩
    case round=>
     rename World=>wb
     clear HK hk30 HM HBA n0;obtain⟨a,k,ha3,rfl,rfl,HK,hk30,HM,hbb⟩:=hrel;by_cases hal:a<3
     ·have halI:(a:Int)<=2:=by omega
      have gnb:=(hbb.block _ (Zab GN.out)).trans GN.out;have gbb:=(hbb.block _ (Zab GB.out)).trans GB.out;have n0:=Zaa gnb 0;have n1:=Zaa gnb 1;have n2:=Zaa gnb 2;have m0:=Zaa gbb 0;simp at n0 n1 n2 m0
      have hbw:Below w.heap.size w wb:=HB2.out.trans (hbb.mono HB2.out.size);have hkl:k<=3*(v-1)+a:=by rw [HK.out];exact Zf3 _ _ _
      have HBB:=hide hbb;have HGB:=hide gbb;clear hbb gnb gbb
      go_wp2_with fail
      refine (HCO.out (v:Int) (a:Int) _ hbw).mono ?_
      rintro e w3 ⟨rfl,b3⟩;have B3:=hide (HBB.out.trans (b3.mono HBB.out.size));have g3:=(b3.block _ (Zab HGB.out)).trans HGB.out;have m7:=Zaa g3 7;simp at m7
      obtain⟨Cc,hC⟩:∃ Cc,Cc=ZbS xls xid (v:Int) (a:Int):=⟨_,rfl⟩;have hC0:=HNN.out (v:Int) (a:Int);rw [<-hC] at hC0 |-;have HCC:=hide hC;clear hC b3 g3 HGB HBB n0 n1 n2 m0 hbw;by_cases hc:Cc=0
      ·have hd:(Cc==0)=true:=by simpa using hc
       have hno:=ZiN (ls:=xls) (id:=xid) (v:=v) (a:=a) hv1 hal (by rw [<-HCC.out];omega)
       have HN1:=hide (show k=(Zav xls xid (3*(v-1)+(a+1))).length by rw [<-Nat.add_assoc,hno];exact HK.out)
       have HN2:=hide (show Zcf es (Zav xls xid (3*(v-1)+(a+1))) by rw [<-Nat.add_assoc,hno];exact HM.out)
       clear hno hc m7
       go_wp2
       go_roundw
       case rel=>exact ⟨a+1,k,by omega,by go_num,rfl,HN1,hk30,HN2,B3.out⟩
       case measure=>simp [intOf];omega
      ·have hd:(Cc==0)=false:=by simpa using hc
       have hhit:=Zg6 (ls:=xls) (id:=xid) (v:=v) (a:=a) hv1 hal (by rw [<-HCC.out];omega)
       have HBAD:=hide (show (es.length<=k\/∃ e,es[k]? = some e/\Zbe e ⟨(v:Int),(a:Int),0,false⟩=false)->R=false from fun h=>by
        obtain⟨l,hl⟩:=Zm8 hv1 hlt hal hhit;rw [HR2.out,hl,Znt (by rw [<-HK.out];exact h)]
        rfl)
       have HGO:=hide (show ∀ e,es[k]? = some e->Zbe e ⟨(v:Int),(a:Int),0,false⟩=true->k+1=(Zav xls xid (3*(v-1)+(a+1))).length/\Zcf es (Zav xls xid (3*(v-1)+(a+1))) from fun e he ho=>by
        rw [<-Nat.add_assoc,hhit];exact⟨by rw [List.length_append, <-HK.out];rfl,HM.out.push (by rw [<-HK.out];exact he) ho⟩)
       clear hhit hc;by_cases hlen:k<es.length
       ·obtain ⟨e,he⟩:∃ e,es[k]? = some e:=⟨es[k],List.getElem?_eq_getElem hlen⟩
        obtain⟨bb,off,cp,hve,hbb,d0,d1,d2,d3⟩:=(HE.out w (Below.refl _ _)).cells k e he;have hw3:Below w.heap.size w w3:=HB2.out.trans (B3.out.mono HB2.out.size);rw [<-hw3.cell (p:=⟨bb,off+k*4,none⟩) hbb] at d0;rw [<-hw3.cell (p:=⟨bb,off+k*4+1,none⟩) hbb] at d1;rw [<-hw3.cell (p:=⟨bb,off+k*4+2,none⟩) hbb] at d2;rw [<-hw3.cell (p:=⟨bb,off+k*4+3,none⟩) hbb] at d3;cases hve
        have HEE:=hide he;clear he;obtain⟨eo,ek,ec,ef⟩:=e;simp only [] at d0 d1 d2 d3
        have hki:(0:Int)<=(k:Int):=by omega
        have hkj:(k:Int)<(es.length:Int):=by omega
        have hkd:decide ((es.length:Int)<=(k:Int))=false:=decide_eq_false (by omega)
        have HFB:=hide (show Zbe ⟨eo,ek,ec,ef⟩ ⟨(v:Int),(a:Int),0,false⟩=false->R=false from fun h=>HBAD.out (.inr ⟨_,HEE.out,h⟩))
        have HFG:=hide (HGO.out _ HEE.out);clear HBAD HGO HEE hw3;by_cases h1:eo=(v:Int)
        ·have h1d:(eo != (v:Int))=false:=by simpa using h1
         by_cases h2:ek=(a:Int)
         ·have h2d:(ek != (a:Int))=false:=by simpa using h2
          obtain⟨q,hq⟩:∃ q,q=inB ec 0 3:=⟨_,rfl⟩;have HI:=hide (fun W=>ZbC ec 0 3 W)
          rw [<-hq] at HI;have HQ:=hide hq;clear hq;cases q with
          | false=>
           have HF:=hide (show R=false from HFB.out (by unfold Zbe;rw [<-HQ.out];simp))
           clear HFB HFG h1 h2
           go_wp2_with fail
           refine (HI.out _).mono ?_
           rintro r w' ⟨rfl,rfl⟩
           go_wp2
           go_ret
           exact⟨Zag HF.out,HB2.out.trans (B3.out.mono HB2.out.size)⟩
          | true=>
           have hec:0<=ec:=by have:=HQ.out;unfold inB at this;simp at this;omega
           cases ef with
           | false=>
            have HT:=hide (HFG.out (by unfold Zbe;rw [<-HQ.out];simp [h1,h2]))
            clear HFB HFG h1 h2
            go_wp2_with fail
            refine (HI.out _).mono ?_
            rintro r w' ⟨rfl,rfl⟩
            go_wp2
            go_roundw
            case rel=>exact ⟨a+1,k+1,by omega,by go_num,by go_num,HT.out.1,by omega,hide HT.out.2,B3.out⟩
            case measure=>simp [intOf];omega
           | true=>
            by_cases h4:ec=0
            ·have h4d:(ec==0)=true:=by simpa using h4
             have HF:=hide (show R=false from HFB.out (by unfold Zbe;simp [h4]))
             clear HFB HFG h1 h2 h4
             go_wp2_with fail
             refine (HI.out _).mono ?_
             rintro r w' ⟨rfl,rfl⟩
             go_wp2
             go_ret
             exact⟨Zag HF.out,HB2.out.trans (B3.out.mono HB2.out.size)⟩
            ·have h4d:(ec==0)=false:=by simpa using h4
             have HT:=hide (HFG.out (by unfold Zbe;rw [<-HQ.out];simp [h1,h2];omega))
             clear HFB HFG h1 h2 h4
             go_wp2_with fail
             refine (HI.out _).mono ?_
             rintro r w' ⟨rfl,rfl⟩
             go_wp2
             go_roundw
             case rel=>exact ⟨a+1,k+1,by omega,by go_num,by go_num,HT.out.1,by omega,hide HT.out.2,B3.out⟩
             case measure=>simp [intOf];omega
         ·have h2d:(ek != (a:Int))=true:=by simpa using h2
          have HF:=hide (show R=false from HFB.out (by unfold Zbe;simp [h2]))
          clear HFB HFG h1 h2
          go_wp2
          go_ret
          exact⟨Zag HF.out,HB2.out.trans (B3.out.mono HB2.out.size)⟩
        ·have h1d:(eo != (v:Int))=true:=by simpa using h1
         have HF:=hide (show R=false from HFB.out (by unfold Zbe;simp [h1]))
         clear HFB HFG h1
         go_wp2
         go_ret
         exact⟨Zag HF.out,HB2.out.trans (B3.out.mono HB2.out.size)⟩
       ·have hkd:decide ((es.length:Int)<=(k:Int))=true:=decide_eq_true (by omega)
        have hkj:(es.length:Int)<=(k:Int):=by omega
        have HF:=hide (show R=false from HBAD.out (.inl (by omega)))
        clear HBAD HGO
        go_wp2
        go_ret
        exact⟨Zag HF.out,HB2.out.trans (B3.out.mono HB2.out.size)⟩
     ·have halI:¬(a:Int)<=2:=by omega
      have HN1:=hide (show k=(Zav xls xid (3*(v+1-1))).length by rw [HK.out];congr 2;omega)
      have HN2:=hide (show Zcf es (Zav xls xid (3*(v+1-1))) by
       have e:3*(v+1-1)=3*(v-1)+a:=by omega
       rw [e];exact HM.out)
      go_wp2
      go_roundw
      case rel=>exact ⟨v+1,k,by omega,by omega,by go_num,rfl,HN1,hk30,HN2,hbb⟩
      case measure=>simp [intOf];omega
   ·have hltI:¬(v:Int)<=(N:Int):=by omega
    have eN:3*(v-1)=3*N:=by omega
    rw [eN] at HK HM;have HRM:=hide (show R=(decide (k=es.length)&&decide (xh=Zbc es)) by rw [HR2.out,HM.out.end, <-HK.out])
    have m5:=Zaa gba 5;have m7:=Zaa gba 7;simp at m5 m7
    have HW:=hide (HB2.out.trans (hba.mono HB2.out.size));have hz7:=Zab gba;clear gna gba hba eN HM HK HR2;by_cases hke:k=es.length
    ·have hkd:((k:Int)==(es.length:Int))=true:=by simp;omega
     have HKE:=hide hke;have hkc:(k:Int)=(es.length:Int):=by omega
     obtain⟨Hd,hHd⟩:∃ Hd,Hd=decide (xh=Zbc es):=⟨_,rfl⟩;rw [<-hHd] at HSI HRM;have HHD:=hide (HHE.out wa.drew HW.out.drew);have BD:=hide HW.out.drew;clear hke hHd HHE
     go_wp2
     go_region_held3 (fun W=>W.cell? ⟨w.heap.size,5,none⟩=some (.slice a3 xh.length c3)/\W.cell? ⟨w.heap.size,7,none⟩=some (.slice a5 es.length c5)) (first | go_keep | (refine ⟨?_,?_⟩ <;> (rw [b5.cell (Nat.lt_of_lt_of_le (by assumption) b4.size),b4.cell (by assumption)];assumption)) | (refine ⟨?_,?_⟩ <;> (rw [b4.cell (by assumption)];assumption))) (first | (go_at_call 22;refine HHD.out.mono ?_;rintro e w4 ⟨uh,rfl,oh,b4⟩) | (go_at_call 21;refine (HSI.out uh _ (BD.out.trans (b4.mono BD.out.size)) (ZaG.ints (ZaU oh))).mono ?_;rintro e w5 ⟨rfl,b5⟩))
     have B4:Below w.heap.size w w4:=BD.out.trans (b4.mono BD.out.size);have B5:Below w.heap.size w w5:=B4.trans (b5.mono B4.size);have HF:=hide (show R=Hd by rw [HRM.out,decide_eq_true HKE.out];rfl)
     go_wp2
     go_ret
     exact⟨Zag HF.out,B5⟩
    ·have hkd:((k:Int)==(es.length:Int))=false:=by simp;omega
     have hkn:¬(k:Int)=(es.length:Int):=by omega
     have HF:=hide (show R=false by rw [HRM.out,decide_eq_false hke];rfl)
     clear hke
     go_wp2
     go_quiet (fail)
     go_wp2
     go_ret
     exact⟨Zag HF.out,ZbZ HW.out _⟩
end Go.Proofs.YtnndlmodjkplnaaGreatDoor
namespace Go.Proofs.YtnndlmodjkplnaaGreatDoor

def ZcJ (v:Nat):Prop:=1<=v/\v<=6

structure Links (L:Nat->Nat->Int) (K:Int):Prop where
 pos:∀ u v,0<=L u v
 le:∀ u v,L u v<=K
 node:∀ u v,0<L u v->ZcJ u/\ZcJ v

def Zdn (src:Nat)(h:Nat->List Int)(u v:Nat)(x:Int):Prop:=(u=src/\x=(v:Int))\/(u≠src/\x∈h u)

structure Inv (L:Nat->Nat->Int) (src:Nat) (F:Nat->Bool) (c:Nat->Int) (h:Nat->List Int):Prop where
 fnode:∀ v,F v=true->ZcJ v/\0<=c v
 cnode:∀ v,0<=c v->ZcJ v
 start:c src=0
 start0:h src=[]
 closed:∀ u v,F u=true->0<L u v->0<=c v/\c v<=c u+L u v
 pred:∀ v,v≠src->0<=c v->∃ u,F u=true/\0<L u v/\c v=c u+L u v
 mono:∀ u v,F u=true->F v=false->0<=c v->c u<=c v
 hop:∀ v,v≠src->∀ x,x∈h v↔0<=c v/\∃ u,F u=true/\0<L u v/\c v=c u+L u v/\Zdn src h u v x
 asc:∀ v,(h v).Pairwise (· < ·)
 rng:∀ v x,x∈h v->1<=x/\x<=6

def Zaw (L:Nat->Nat->Int)(c:Nat->Int)(u v:Nat):Int:=
 if 0<L u v/\(c v<0\/c u+L u v<c v) then c u+L u v else c v

theorem Zjg {L:Nat->Nat->Int}{c:Nat->Int}{u v:Nat}(h:0<=c v):Zaw L c u v<=c v:=by
 unfold Zaw;split <;> omega

theorem ZnR {L:Nat->Nat->Int}{c:Nat->Int}{u v:Nat}(hu:0<=c u)(h:0<=c v):0<=Zaw L c u v:=by
 unfold Zaw;split <;> omega

theorem Zdw {L:Nat->Nat->Int}{c:Nat->Int}{u v:Nat}(h0:0<=c v)(h:c v<=c u):Zaw L c u v=c v:=by
 unfold Zaw;split <;> omega

structure RelaxH (L:Nat->Nat->Int) (src:Nat) (c:Nat->Int) (h:Nat->List Int) (u v:Nat) (h':List Int):Prop where
 asc:h'.Pairwise (· < ·)
 mem:∀ x,x∈h'↔((x∈h v/\Zaw L c u v=c v)\/(0<L u v/\Zaw L c u v=c u+L u v/\Zdn src h u v x))

theorem Inv.step {L:Nat->Nat->Int}{K:Int}{src:Nat}{F:Nat->Bool}{c:Nat->Int}{h:Nat->List Int}(I:Inv L src F c h)(hL:Links L K)
  {u:Nat} (hu:F u=false) (hcu:0<=c u) (hmin:∀ v,F v=false->0<=c v->c u<=c v) {h':Nat->List Int} (hh:∀ v,RelaxH L src c h u v (h' v)):
  Inv L src (fun v=>F v||v==u) (fun v=>Zaw L c u v) h':=by
 have hup:∀ v,F v=true->c v<=c u:=fun v hv=>I.mono v u hv hu hcu
 have keep:∀ v,F v=true->Zaw L c u v=c v:=fun v hv=>Zdw (I.fnode v hv).2 (hup v hv)
 have keepu:Zaw L c u u=c u:=Zdw hcu (Int.le_refl _);have hsrc:Zaw L c u src=0:=by
  have:=I.start;unfold Zaw;split <;> omega
 have hFn:∀ v,F v=true->v≠u:=fun v hv e=>by rw [e,hu] at hv;cases hv
 -- hops of done nodes and of u stay
 have hsame:∀ v,0<=c v->c v<=c u->∀ x,x∈h' v↔x∈h v:=by
  intro v h0 hv x;rw [(hh v).mem x];have e:=Zdw (L:=L) h0 hv
  constructor
  ·rintro (⟨h1,_⟩ | ⟨h1,h2,_⟩)
   ·exact h1
   ·omega
  ·intro h1;exact .inl ⟨h1,e⟩
 have hover:∀ w,(F w=true\/w=u)->∀ v x,Zdn src h' w v x↔Zdn src h w v x:=by
  intro w hw v x;have:∀ x,x∈h' w↔x∈h w:=by
   rcases hw with hw | rfl
   ·exact hsame w (I.fnode w hw).2 (hup w hw)
   ·exact hsame _ hcu (Int.le_refl _)
  unfold Zdn;rw [this x]
 have hFu:∀ v,(F v||v==u)=true↔(F v=true\/v=u):=by
  intro v;simp
 refine⟨?_,?_,hsrc,?_,?_,?_,?_,?_,fun v=>(hh v).asc,?_⟩
 ·intro v hv
  rcases (hFu v).1 hv with h1 | rfl
  ·refine ⟨(I.fnode v h1).1,?_⟩
   show 0<=Zaw L c u v
   rw [keep v h1];exact (I.fnode v h1).2
  ·refine ⟨I.cnode _ hcu,?_⟩
   show 0<=Zaw L c _ _
   rw [keepu];exact hcu
 ·intro v hv
  have hv':0<=Zaw L c u v:=hv;unfold Zaw at hv'
  split at hv'
  ·rename_i h1;exact (hL.node u v h1.1).2
  ·exact I.cnode v hv'
 ·have:∀ x,x ∉ h' src:=by
   intro x hx;rw [(hh src).mem x,I.start0] at hx
   rcases hx with ⟨h1,_⟩ | ⟨h1,h2,_⟩
   ·cases h1
   ·rw [hsrc] at h2;omega
  exact List.eq_nil_iff_forall_not_mem.2 this
 ·intro w v hw hl
  show 0<=Zaw L c u v/\Zaw L c u v<=Zaw L c u w+L w v
  rcases (hFu w).1 hw with h1 | rfl
  ·rw [keep w h1]
   have:=I.closed w v h1 hl;have h2:=Zjg (L:=L) (u:=u) this.1;have h3:=ZnR (L:=L) hcu this.1;omega
  ·rw [keepu]
   unfold Zaw
   split <;> omega
 ·intro v hv h0
  have h0':0<=Zaw L c u v:=h0
  show ∃ w,(F w||w==u)=true/\0<L w v/\Zaw L c u v=Zaw L c u w+L w v
  by_cases h1:0<L u v/\(c v<0\/c u+L u v<c v)
  ·refine ⟨u,by simp,h1.1,?_⟩
   rw [keepu];unfold Zaw;rw [if_pos h1]
  ·have e:Zaw L c u v=c v:=by unfold Zaw;rw [if_neg h1]
   rw [e] at h0' |-;obtain⟨w,hw,hl,hc⟩:=I.pred v hv h0';exact⟨w,by simp [hw],hl,by rw [keep w hw];exact hc⟩
 ·intro w v hw hv h0
  have h0':0<=Zaw L c u v:=h0;have hv1:F v=false:=by cases hfv:F v <;> simp [hfv] at hv |-
  show Zaw L c u w<=Zaw L c u v
  have hwc:Zaw L c u w<=c u:=by
   rcases (hFu w).1 hw with h1 | rfl
   ·rw [keep w h1];exact hup w h1
   ·rw [keepu];omega
  have huv:c u<=Zaw L c u v:=by
   by_cases h1:0<L u v/\(c v<0\/c u+L u v<c v)
   ·unfold Zaw;rw [if_pos h1];omega
   ·have e:Zaw L c u v=c v:=by unfold Zaw;rw [if_neg h1]
    rw [e] at h0' |-;exact hmin v hv1 h0'
  omega
 ·intro v hv x
  show x∈h' v↔0<=Zaw L c u v/\∃ w,(F w||w==u)=true/\0<L w v/\Zaw L c u v=Zaw L c u w+L w v/\Zdn src h' w v x
  rw [(hh v).mem x]
  constructor
  ·rintro (⟨h1,h2⟩ | ⟨h1,h2,h3⟩)
   ·obtain ⟨h0,w,hw,hl,hc,ho⟩:=(I.hop v hv x).1 h1
    rw [h2];exact⟨h0,w,by simp [hw],hl,by rw [keep w hw];exact hc,(hover w (.inl hw) v x).2 ho⟩
   ·refine ⟨by omega,u,by simp,h1,by rw [keepu];exact h2,(hover u (.inr rfl) v x).2 h3⟩
  ·rintro ⟨h0,w,hw,hl,hc,ho⟩
   rcases (hFu w).1 hw with h1 | rfl
   ·rw [keep w h1] at hc
    have hcl:=I.closed w v h1 hl;have h3:=Zjg (L:=L) (u:=u) hcl.1;have e:Zaw L c u v=c v:=by omega
    refine .inl ⟨(I.hop v hv x).2 ⟨hcl.1,w,h1,hl,by omega,(hover w (.inl h1) v x).1 ho⟩,e⟩
   ·rw [keepu] at hc
    exact .inr ⟨hl,hc,(hover _ (.inr rfl) v x).1 ho⟩
 ·intro v x hx
  rw [(hh v).mem x] at hx
  rcases hx with ⟨h1,_⟩ | ⟨h1,_,h3⟩
  ·exact I.rng v x h1
  ·rcases h3 with ⟨_,rfl⟩ | ⟨_,h4⟩
   ·have:=(hL.node u v h1).2;unfold ZcJ at this;omega
   ·exact I.rng u x h4

theorem ZhF:∀ {a b:List Int},a.Pairwise (· < ·)->b.Pairwise (· < ·)->(∀ x,x∈a↔x∈b)->a=b
 | [],[],_,_,_=>rfl
 | [],y::ys,_,_,h=>by have:=(h y).2 (by simp);cases this
 | x::xs,[],_,_,h=>by have:=(h x).1 (by simp);cases this
 | x::xs,y::ys,ha,hb,h=>by
  have ha':=List.pairwise_cons.1 ha;have hb':=List.pairwise_cons.1 hb;have hxy:x=y:=by
   have h1:=(h x).1 (by simp)
   have h2:=(h y).2 (by simp)
   rcases List.mem_cons.1 h1 with e | e
   ·exact e
   ·rcases List.mem_cons.1 h2 with e2 | e2
    ·exact e2.symm
    ·have:=ha'.1 y e2;have:=hb'.1 x e;omega
  subst hxy;have:xs=ys:=by
   refine ZhF ha'.2 hb'.2 (fun z=>?_)
   have hz:=h z
   constructor
   ·intro hm
    have h1:=hz.1 (List.mem_cons_of_mem _ hm)
    rcases List.mem_cons.1 h1 with e | e
    ·have:=ha'.1 z hm;omega
    ·exact e
   ·intro hm
    have h1:=hz.2 (List.mem_cons_of_mem _ hm)
    rcases List.mem_cons.1 h1 with e | e
    ·have:=hb'.1 z hm;omega
    ·exact e
  rw [this]

def Fix (L:Nat->Nat->Int)(src:Nat)(c:Nat->Int)(h:Nat->List Int):Prop:=∃ F,Inv L src F c h/\∀ v,0<=c v->F v=true

theorem Fix.cost_le {L:Nat->Nat->Int}{src:Nat}{c d:Nat->Int}{h g:Nat->List Int}(A:Fix L src c h)(B:Fix L src d g):
  ∀ (n:Nat) (v:Nat),0<=c v->(c v).toNat<=n->0<=d v/\d v<=c v:=by
 obtain⟨F,I,hF⟩:=A;obtain⟨G,J,hG⟩:=B;intro n
 induction n with
 | zero=>
  intro v h0 hn;by_cases hv:v=src
  ·subst hv;rw [J.start];omega
  ·obtain ⟨u,hu,hl,hc⟩:=I.pred v hv h0
   have:=(I.fnode u hu).2;omega
 | succ n ih=>
  intro v h0 hn;by_cases hv:v=src
  ·subst hv;rw [J.start,I.start];omega
  ·obtain ⟨u,hu,hl,hc⟩:=I.pred v hv h0
   have h1:=(I.fnode u hu).2;have h2:=ih u h1 (by omega)
   have h3:=J.closed u v (hG u h2.1) hl;omega

theorem Fix.cost {L:Nat->Nat->Int}{src:Nat}{c d:Nat->Int}{h g:Nat->List Int}(A:Fix L src c h)(B:Fix L src d g)(v:Nat)(h0:0<=c v):d v=c v:=by
 have h1:=A.cost_le B _ v h0 (Nat.le_refl _);have h2:=B.cost_le A _ v h1.1 (Nat.le_refl _);omega

theorem Fix.hops_sub {L:Nat->Nat->Int}{src:Nat}{c d:Nat->Int}{h g:Nat->List Int}(A:Fix L src c h)(B:Fix L src d g):
  ∀ (n:Nat) (v:Nat),0<=c v->(c v).toNat<=n->∀ x,x∈h v->x∈g v:=by
 have hcost:=A.cost B;obtain⟨F,I,hF⟩:=A;obtain⟨G,J,hG⟩:=B;intro n
 induction n with
 | zero=>
  intro v h0 hn x hx;by_cases hv:v=src
  ·subst hv;rw [I.start0] at hx;cases hx
  ·obtain ⟨u,hu,hl,hc⟩:=I.pred v hv h0
   have:=(I.fnode u hu).2;omega
 | succ n ih=>
  intro v h0 hn x hx;by_cases hv:v=src
  ·subst hv;rw [I.start0] at hx;cases hx
  ·obtain ⟨_,u,hu,hl,hc,ho⟩:=(I.hop v hv x).1 hx
   have h1:=(I.fnode u hu).2;have eu:=hcost u h1;have ev:=hcost v h0;refine (J.hop v hv x).2 ⟨by omega,u,hG u (by omega),hl,by omega,?_⟩
   rcases ho with h3 | ⟨h3,h4⟩
   ·exact .inl h3
   ·exact .inr ⟨h3,ih u h1 (by omega) x h4⟩

theorem Fix.hops {L:Nat->Nat->Int}{src:Nat}{c d:Nat->Int}{h g:Nat->List Int}(A:Fix L src c h)(B:Fix L src d g)(v:Nat)(h0:0<=c v):g v=h v:=by
 have e:=A.cost B v h0;have sub1:=A.hops_sub B _ v h0 (Nat.le_refl _);have sub2:=B.hops_sub A _ v (by omega:0<=d v) (Nat.le_refl _)
 obtain⟨F,I,_⟩:=A;obtain⟨G,J,_⟩:=B;exact ZhF (J.asc v) (I.asc v) (fun x=>⟨sub2 x,sub1 x⟩)

theorem Inv.init {L:Nat->Nat->Int}{src:Nat}(hs:ZcJ src):Inv L src (fun _=>false) (fun v=>if v=src then 0 else -1) (fun _=>[]):=by
 refine⟨by simp,?_,by simp,rfl,by simp,?_,by simp,?_,by simp,by simp⟩
 ·intro v hv
  have hv':(0:Int)<=if v=src then 0 else -1:=hv
  split at hv'
  ·rename_i e;rw [e];exact hs
  ·omega
 ·intro v hv h0
  have h0':(0:Int)<=if v=src then 0 else -1:=h0
  rw [if_neg hv] at h0';omega
 ·intro v hv x
  simp [hv]
end Go.Proofs.YtnndlmodjkplnaaGreatDoor
namespace Go.Proofs.YtnndlmodjkplnaaGreatDoor
open Go.RowKit
set_option linter.unusedSimpArgs false
set_option linter.unusedVariables false
set_option maxRecDepth 100000
set_option maxHeartbeats 8000000
def atZ (xs:List RecD)(r:RecD):Int:=match xs.findIdx? (fun x=>Zbv x r) with
 | some i=>(i:Int)
 | none => -1
theorem ZmT {xs:List RecD}{r x:RecD}{k:Nat}(hk:xs[k]? = some x)(hs:Zbv x r=true)(hall:∀ j,j<k->∀ y,xs[j]? = some y->Zbv y r=false):atZ xs r=(k:Int):=by
 obtain⟨h1,e1⟩:=List.getElem?_eq_some_iff.1 hk;have:xs.findIdx? (fun x=>Zbv x r)=some k:=by
  rw [List.findIdx?_eq_some_iff_getElem];refine⟨h1,by rw [e1];exact hs,fun j hj=>?_⟩
  have:=hall j hj xs[j] (List.getElem?_eq_getElem (by omega))
  simp [this]
 unfold atZ;rw [this]
theorem Zos {xs:List RecD}{r:RecD}(hall:∀ j,j<xs.length->∀ y,xs[j]? = some y->Zbv y r=false):atZ xs r = -1:=by
 have:xs.findIdx? (fun x=>Zbv x r)=none:=by
  rw [List.findIdx?_eq_none_iff];intro x hx;obtain⟨i,hi,e⟩:=List.getElem_of_mem hx;exact hall i hi x (by rw [<-e];exact List.getElem?_eq_getElem hi)
 unfold atZ;rw [this]
theorem ZfR (xs:List RecD)(r:RecD):atZ xs r = -1\/∃ (k:Nat) (x:RecD),atZ xs r=(k:Int)/\xs[k]? = some x/\Zbv x r=true:=by
 unfold atZ;cases h:xs.findIdx? (fun x=>Zbv x r) with
 | none=>exact .inl rfl
 | some i=>
  obtain⟨h1,h2,_⟩:=List.findIdx?_eq_some_iff_getElem.1 h;exact .inr ⟨i,xs[i],rfl,List.getElem?_eq_getElem h1,h2⟩
theorem Zpa (v:Value)(ps:List RP)(hi:Nat)(r:RP)(w:World)(hv:RecsIn w hi v ps)(hhi:hi<=w.heap.size)(hn:tot ps<=1048576):
  Calls Tryz.prog 169 #[v,.agg (recC r.1 r.2)] w fun e w'=>e=.returned (.int .i64 (atZ (fsts ps) r.1))/\Below w.heap.size w w':=by
 have hnl:=Zca ps;obtain⟨a1,c1,rfl⟩:=Zac hv.row;have HV:=hide hv;clear hv;have BX:=(Below.refl w.heap.size w).alloc (Nat.le_refl _) (.cells (recC r.1 r.2) 128);have hx:=heap_alloc_new w (.cells (recC r.1 r.2) 128);obtain⟨wx,hwx⟩:∃ wx,wx=w.alloc (.cells (recC r.1 r.2) 128):=⟨_,rfl⟩;rw [<-hwx] at BX hx;unfold recC at *
 go_enter Tryz.func169,Tryz.ntmps169
 go_wp2
 rw [<-hwx];have HX:=hide hx;clear hwx hx
 go_loopw [5] (fun i wr=>∃ (k:Nat),k<=ps.length/\i=.int .i64 k/\(∀ j,j<k->∀ y,(fsts ps)[j]? = some y->Zbv y r.1=false)/\Below wx.heap.size wx wr) (fun i _=>ps.length-(intOf i).toNat)
 case atStart=>exact ⟨0,by omega,rfl,by omega,Below.refl _ _⟩
 case round=>
  obtain⟨k,hk,rfl,hall,hnx⟩:=hrel;have HALL:=hide hall;clear hall;have hsz:=hnx.size;have hsx:=Zab HX.out;have BWR:Below w.heap.size w wr:=BX.trans (hnx.mono (by omega))
  by_cases hlt:k<ps.length
  ·obtain ⟨p,hp⟩:∃ p,ps[k]? = some p:=⟨ps[k],List.getElem?_eq_getElem hlt⟩
   have hat:=HV.out.at;obtain⟨b,off,cap',hve,hbb,c0,c1,c2,c3,c4,c5,c6,c7,_⟩:=hat.cells k p hp;cases hve
   rw [<-BWR.cell (p:=⟨b,off+k*8,none⟩) (Nat.lt_of_lt_of_le hbb hhi)] at c0;rw [<-BWR.cell (p:=⟨b,off+k*8+1,none⟩) (Nat.lt_of_lt_of_le hbb hhi)] at c1;rw [<-BWR.cell (p:=⟨b,off+k*8+2,none⟩) (Nat.lt_of_lt_of_le hbb hhi)] at c2;rw [<-BWR.cell (p:=⟨b,off+k*8+3,none⟩) (Nat.lt_of_lt_of_le hbb hhi)] at c3;rw [<-BWR.cell (p:=⟨b,off+k*8+4,none⟩) (Nat.lt_of_lt_of_le hbb hhi)] at c4;rw [<-BWR.cell (p:=⟨b,off+k*8+5,none⟩) (Nat.lt_of_lt_of_le hbb hhi)] at c5;rw [<-BWR.cell (p:=⟨b,off+k*8+6,none⟩) (Nat.lt_of_lt_of_le hbb hhi)] at c6;rw [<-BWR.cell (p:=⟨b,off+k*8+7,none⟩) (Nat.lt_of_lt_of_le hbb hhi)] at c7;have hxx:=(hnx.block _ hsx).trans HX.out;have d0:=Zaa hxx 0;have d1:=Zaa hxx 1;have d2:=Zaa hxx 2;have d3:=Zaa hxx 3;have d4:=Zaa hxx 4;have d5:=Zaa hxx 5;have d6:=Zaa hxx 6;have d7:=Zaa hxx 7;simp at d0 d1 d2 d3 d4 d5 d6 d7
   have hb1:b<wr.heap.size:=by omega
   have hb2:w.heap.size<wr.heap.size:=by omega
   have hki:(0:Int)<=(k:Int):=by omega
   have hkj:(k:Int)<(ps.length:Int):=by omega
   have hq:=fun W=>Zjo p.2 r.2 p.1 r.1 W
   unfold recC at hq;obtain⟨q,hqq⟩:∃ q,q=Zbv p.1 r.1:=⟨_,rfl⟩;rw [<-hqq] at hq;have HK:=hide hq;have HQQ:=hide hqq;have HPP:=hide (Zbw hp);clear hq hqq hp hat hxx;cases q
   ·go_wp2
    go_region_held3 (fun W=>W.cell? ⟨b,off+k*8,none⟩=some (.int .i64 p.1.area)/\W.cell? ⟨b,off+k*8+1,none⟩=some (.int .i64 p.1.kind)/\W.cell? ⟨b,off+k*8+2,none⟩=some (.int .i64 p.1.owner)/\W.cell? ⟨b,off+k*8+3,none⟩=some (.int .i64 p.1.key)/\W.cell? ⟨b,off+k*8+4,none⟩=some (.int .i64 p.1.seq)/\W.cell? ⟨b,off+k*8+5,none⟩=some (p.2)/\W.cell? ⟨b,off+k*8+6,none⟩=some (.int .i64 p.1.cost)/\W.cell? ⟨b,off+k*8+7,none⟩=some (.bool p.1.far)/\W.cell? ⟨w.heap.size,0,none⟩=some (.int .i64 r.1.area)/\W.cell? ⟨w.heap.size,1,none⟩=some (.int .i64 r.1.kind)/\W.cell? ⟨w.heap.size,2,none⟩=some (.int .i64 r.1.owner)/\W.cell? ⟨w.heap.size,3,none⟩=some (.int .i64 r.1.key)/\W.cell? ⟨w.heap.size,4,none⟩=some (.int .i64 r.1.seq)/\W.cell? ⟨w.heap.size,5,none⟩=some (r.2)/\W.cell? ⟨w.heap.size,6,none⟩=some (.int .i64 r.1.cost)/\W.cell? ⟨w.heap.size,7,none⟩=some (.bool r.1.far)) (first | go_keep | (refine ⟨?_,?_,?_,?_,?_,?_,?_,?_,?_,?_,?_,?_,?_,?_,?_,?_⟩ <;> (rw [hbc.cell (by assumption)];assumption))) (first | (go_at_call 189;refine (HK.out _).mono ?_;rintro e w1 ⟨rfl,hbc⟩))
    go_wp2
    go_roundw
    case rel=>exact ⟨k+1,by omega,by go_num,(fun j hj y hy=>by
     by_cases e:j=k
     ·subst e;rw [HPP.out] at hy;cases hy;exact HQQ.out.symm
     ·exact HALL.out j (by omega) y hy),hnx.trans ((Below.refl _ _).drew.trans (hbc.mono hsz))⟩
    case measure=>simp [intOf];omega
   ·go_wp2
    go_region_held3 (fun W=>W.cell? ⟨b,off+k*8,none⟩=some (.int .i64 p.1.area)/\W.cell? ⟨b,off+k*8+1,none⟩=some (.int .i64 p.1.kind)/\W.cell? ⟨b,off+k*8+2,none⟩=some (.int .i64 p.1.owner)/\W.cell? ⟨b,off+k*8+3,none⟩=some (.int .i64 p.1.key)/\W.cell? ⟨b,off+k*8+4,none⟩=some (.int .i64 p.1.seq)/\W.cell? ⟨b,off+k*8+5,none⟩=some (p.2)/\W.cell? ⟨b,off+k*8+6,none⟩=some (.int .i64 p.1.cost)/\W.cell? ⟨b,off+k*8+7,none⟩=some (.bool p.1.far)/\W.cell? ⟨w.heap.size,0,none⟩=some (.int .i64 r.1.area)/\W.cell? ⟨w.heap.size,1,none⟩=some (.int .i64 r.1.kind)/\W.cell? ⟨w.heap.size,2,none⟩=some (.int .i64 r.1.owner)/\W.cell? ⟨w.heap.size,3,none⟩=some (.int .i64 r.1.key)/\W.cell? ⟨w.heap.size,4,none⟩=some (.int .i64 r.1.seq)/\W.cell? ⟨w.heap.size,5,none⟩=some (r.2)/\W.cell? ⟨w.heap.size,6,none⟩=some (.int .i64 r.1.cost)/\W.cell? ⟨w.heap.size,7,none⟩=some (.bool r.1.far)) (first | go_keep | (refine ⟨?_,?_,?_,?_,?_,?_,?_,?_,?_,?_,?_,?_,?_,?_,?_,?_⟩ <;> (rw [hbc.cell (by assumption)];assumption))) (first | (go_at_call 189;refine (HK.out _).mono ?_;rintro e w1 ⟨rfl,hbc⟩))
    go_wp2
    go_ret
    exact⟨Zcn (by rw [ZmT HPP.out HQQ.out.symm HALL.out]),BWR.trans ((Below.refl _ _).drew.trans (hbc.mono (show w.heap.size<=wr.heap.size by omega)))⟩
  ·have hkn:k=ps.length:=by omega
   have KN:=hide hkn;clear hkn
   go_wp2
   go_ret
   exact⟨Zcn (by rw [Zos (by have h:=HALL.out;rw [KN.out] at h;simpa [fsts] using h)]),BWR⟩
theorem Zcs {P:Program}{fn:Func}{p u:Tmp}{ty:TypeId}(h:fn.results=#[.cell p ty,.tmp u])(tmps:Array Value)(w:World)(g:Nat)(t:TypeId)(cs:Array Value)(fr:Nat × Nat)(d:TypeDesc)
  (hp:tmps.getD p undef=.pointer (some ⟨g,0,none⟩)) (hg:w.heap[g]? = some (.cells cs t fr))
  (hu:P.underlying ty=some d) (hd:(match d with | .struct _ | .array _ _=>true | _=>false)=true) (hi:(P.info? ty).map (·.size)=some cs.size):
  (results fn tmps).run P w=.ok (.tuple #[.agg cs,tmps.getD u undef]) w:=by
 have hp':tmps[p]?.getD undef=.pointer (some ⟨g,0,none⟩):=by simpa using hp
 rw [results_cell_tmp h];simp [hp',asAddr,run_loadVar_row w g t ty cs fr d hg hu hd hi]
def ZiJ (xs:List RecD)(r:RecD):RecD:=if atZ xs r<0 then Zc2 else xs.getD (atZ xs r).toNat Zc2
def ZjW (xs:List RecD)(r:RecD):Bool := !decide (atZ xs r<0)
theorem ZiL {xs:List RecD}{r:RecD}(h:atZ xs r = -1):ZiJ xs r=Zc2/\ZjW xs r=false:=by unfold ZiJ ZjW;rw [h];exact⟨rfl,rfl⟩
theorem Zm5 {xs:List RecD}{r y:RecD}{k:Nat}(h:atZ xs r=(k:Int))(hy:xs[k]? = some y):ZiJ xs r=y/\ZjW xs r=true:=by
 unfold ZiJ ZjW;rw [h,if_neg (by omega)]
 exact⟨by simp [hy],by simp⟩
theorem Zg7 {ps:List RP}{k:Nat}{y:RecD}(h:(fsts ps)[k]? = some y):∃ p,ps[k]? = some p/\p.1=y:=by
 simp [fsts] at h
 obtain⟨v,hv⟩:=h;exact⟨(y,v),hv,rfl⟩
def ZfF (area node:Int):RecD:=⟨area,1,node,0,0,[],0,false⟩
def Zcv (xs:List RecD)(area node:Int):RecD:=ZiJ xs (ZfF area node)
def Zh1 (xs:List RecD)(area node:Int):Bool:=ZjW xs (ZfF area node)
def ZgD (ns:List Nr)(b:Int):Int:=match ns.find? (fun n=>n.to==b) with
 | some n=>n.c
 | none=>0
def Ze0 (xs:List RecD)(area a b:Int):Int:=ZgD (Zcv xs area a).near b
theorem Znx (W:World)(B:Nat):ZaB W (.slice none 0 0) [] B:=⟨none,0,rfl,.inl rfl⟩
theorem Zgw (v:Value)(ps:List RP)(hi:Nat)(area node:Int)(w:World)(hv:RecsIn w hi v ps)(hhi:hi<=w.heap.size)(hn:tot ps<=1048576):
  Calls Tryz.prog 136 #[v,.int .i64 area,.int .i64 node] w fun e w'=>∃ u,e=.returned (.tuple #[.agg (recC (Zcv (fsts ps) area node) u),.bool (Zh1 (fsts ps) area node)])/\ZaB w' u (Zcv (fsts ps) area node).near hi/\(Zcv (fsts ps) area node).near.length<=1048576/\Below w.heap.size w w':=by
 have hnl:=Zca ps;obtain⟨a1,c1,rfl⟩:=Zac hv.row;have BX:Below w.heap.size w (w.alloc (.cells #[.int .i64 0,.int .i64 0,.int .i64 0,.int .i64 0,.int .i64 0,.slice none 0 0,.int .i64 0,.bool false] 128)):=(Below.refl _ _).alloc (Nat.le_refl _) _;have hq:=heap_alloc_new w (.cells #[.int .i64 0,.int .i64 0,.int .i64 0,.int .i64 0,.int .i64 0,.slice none 0 0,.int .i64 0,.bool false] 128);obtain⟨w0,hw0⟩:∃ W,W=w.alloc (.cells #[.int .i64 0,.int .i64 0,.int .i64 0,.int .i64 0,.int .i64 0,.slice none 0 0,.int .i64 0,.bool false] 128):=⟨_,rfl⟩;rw [<-hw0] at BX hq;have hs0:=Zab hq;have HAT:=hide (Zpa (.slice a1 ps.length c1) ps hi (ZfF area node,.slice none 0 0) w0 (hv.below BX hhi) (by have:=BX.size;omega) hn)
 unfold recC ZfF at HAT;simp only [] at HAT
 have HV:=hide hv;clear hv;unfold Zcv Zh1;obtain⟨nr,hnr⟩:∃ r,r=ZfF area node:=⟨_,rfl⟩;rw [show (⟨area,1,node,0,0,[],0,false⟩:RecD)=nr from hnr.symm] at HAT
 rw [<-hnr];clear hnr
 rcases ZfR (fsts ps) nr with hz | ⟨j,y,hz,hy,_⟩
 ·obtain ⟨e1,e2⟩:=ZiL hz
  rw [e1,e2];rw [hz] at HAT;clear hz e1 e2;unfold recC
  go_enter Tryz.func136,Tryz.ntmps136
  go_wp2_with fail
  rw [<-hw0];clear hw0;refine HAT.out.mono ?_
  rintro e w1 ⟨rfl,b1⟩;have B1:Below w.heap.size w w1:=BX.trans (b1.mono BX.size);have hz1:=(b1.block _ hs0).trans hq;clear b1 hq HAT;have u0:=Zaa hz1 0;have u1:=Zaa hz1 1;have u2:=Zaa hz1 2;have u3:=Zaa hz1 3;have u4:=Zaa hz1 4;have u5:=Zaa hz1 5;have u6:=Zaa hz1 6;have u7:=Zaa hz1 7;simp at u0 u1 u2 u3 u4 u5 u6 u7
  have fu:=Zae hz1;have FF:=hide (fin85 Zc2 (.slice none 0 0) hz1);have G8:=hide (Zne w1 w.heap.size Zc2 (.slice none 0 0));clear hz1
  go_wp2_with fail
  (try simp only [Exit.inBlock,Exit.then])
  refine bodyPost_ret (Zcs rfl _ _ w.heap.size 128 (recC Zc2 (.slice none 0 0)) (0,0) _ rfl FF.out Tryz.underlying128 rfl (by kernel_rfl)) rfl ?_
  exact⟨.slice none 0 0,rfl,Znx _ _,(by simp [Zc2]),B1.grown G8.out B1.size (fun k hk=>by simp at hk;omega)⟩
 ·obtain ⟨e1,e2⟩:=Zm5 hz hy
  rw [e1,e2];obtain⟨t,htj,hty⟩:=Zg7 hy;have hjl:j<ps.length:=(List.getElem?_eq_some_iff.1 htj).1;have hji:(0:Int)<=(j:Int):=by omega
  have hjj:(j:Int)<(ps.length:Int):=by omega
  have hj0:¬(j:Int)<0:=by omega
  rw [hz] at HAT;obtain⟨b,off,cp,hve,hbb,c0,c1,c2,c3,c4,c5,c6,c7,hnr⟩:=HV.out.at.cells j t htj;cases hve
  have hbw:b<w.heap.size:=by omega
  obtain⟨pa,pc,hpn⟩:=ZaB.shape hnr;rw [hpn] at c5 hnr;have HNL:=hide (show t.1.near.length<=1048576 by have:=Zez (List.mem_of_getElem? htj);omega)
  have HNR:=hide hnr;subst hty;clear hz hy htj e1 e2 hpn hnr;unfold recC
  go_enter Tryz.func136,Tryz.ntmps136
  go_wp2_with fail
  rw [<-hw0];clear hw0;refine HAT.out.mono ?_
  rintro e w1 ⟨rfl,b1⟩;have B1:Below w.heap.size w w1:=BX.trans (b1.mono BX.size);have hz1:=(b1.block _ hs0).trans hq;clear b1 hq HAT;rw [<-B1.cell (p:=⟨b,off+j*8,none⟩) hbw] at c0;rw [<-B1.cell (p:=⟨b,off+j*8+1,none⟩) hbw] at c1;rw [<-B1.cell (p:=⟨b,off+j*8+2,none⟩) hbw] at c2;rw [<-B1.cell (p:=⟨b,off+j*8+3,none⟩) hbw] at c3;rw [<-B1.cell (p:=⟨b,off+j*8+4,none⟩) hbw] at c4;rw [<-B1.cell (p:=⟨b,off+j*8+5,none⟩) hbw] at c5;rw [<-B1.cell (p:=⟨b,off+j*8+6,none⟩) hbw] at c6;rw [<-B1.cell (p:=⟨b,off+j*8+7,none⟩) hbw] at c7;obtain⟨z,hzz⟩:∃ z,z=w.heap.size:=⟨_,rfl⟩;rw [<-hzz] at hz1 |-;have HZ:=hide hzz;clear hzz;have u0:=Zaa hz1 0;have u1:=Zaa hz1 1;have u2:=Zaa hz1 2;have u3:=Zaa hz1 3;have u4:=Zaa hz1 4;have u5:=Zaa hz1 5;have u6:=Zaa hz1 6;have u7:=Zaa hz1 7;simp at u0 u1 u2 u3 u4 u5 u6 u7
  have fu:=Zae hz1;have HZ1:=hide hz1;have FIN:∀ W,W=ZnP w1 z t.1 (.slice pa t.1.near.length pc)->ZaB W (.slice pa t.1.near.length pc) t.1.near hi/\Below w.heap.size w W:=by
   intro W hW;have G8:=Zne w1 z t.1 (.slice pa t.1.near.length pc);rw [<-hW] at G8;have BF:Below w.heap.size w W:=B1.grown G8 B1.size (fun k hk=>by have:=HZ.out;simp at hk;omega)
   exact⟨ZaL.later HNR.out BF hhi,BF⟩
  have HFIN:=hide FIN;clear hz1 FIN HNR B1 HV BX hs0 hjl hbb hbw
  go_wp2_with fail
  (try simp only [Exit.inBlock,Exit.then])
  refine bodyPost_ret (Zcs rfl _ _ z 128 (recC t.1 (.slice pa t.1.near.length pc)) (0,0) _ rfl (fin85 t.1 (.slice pa t.1.near.length pc) HZ1.out) Tryz.underlying128 rfl (by kernel_rfl)) rfl ?_
  obtain⟨W5,hW5⟩:∃ W,W=ZnP w1 z t.1 (.slice pa t.1.near.length pc):=⟨_,rfl⟩;have h:=HFIN.out W5 hW5;subst hW5;exact⟨_,rfl,h.1,HNL.out,h.2⟩
theorem Zn5 {ns:List Nr}{k:Nat}{n:Nr}{b:Int}(h:ns[k]? = some n)(hno:∀ q∈ns.take k,q.to≠b)(hb:n.to=b):ZgD ns b=n.c:=by
 have e:ns.find? (fun x=>x.to==b)=some n:=by
  obtain⟨hk,e1⟩:=List.getElem?_eq_some_iff.1 h;rw [List.find?_eq_some_iff_append];refine⟨by simpa using hb,ns.take k,ns.drop (k+1),?_,?_⟩
  ·rw [<-e1, <-List.drop_eq_getElem_cons hk,List.take_append_drop]
  ·intro x hx
   simpa using hno x hx
 unfold ZgD;rw [e]
theorem Zmu {ns:List Nr}{b:Int}(hno:∀ q∈ns,q.to≠b):ZgD ns b=0:=by
 have e:ns.find? (fun x=>x.to==b)=none:=by
  rw [List.find?_eq_none];intro x hx
  simpa using hno x hx
 unfold ZgD;rw [e]
theorem Zjs {ns:List Nr}{k:Nat}{n:Nr}{b:Int}(h:ns[k]? = some n)(hno:∀ q∈ns.take k,q.to≠b)(hz:n.to≠b):∀ q∈ns.take (k+1),q.to≠b:=by
 obtain⟨hk,e⟩:=List.getElem?_eq_some_iff.1 h;rw [List.take_succ_eq_append_getElem hk,e];intro q hq
 rcases List.mem_append.1 hq with h1 | h1
 ·exact hno q h1
 ·have:q=n:=by simpa using h1
  subst this;exact hz
theorem Zmo (v:Value)(ps:List RP)(hi:Nat)(area a b:Int)(w:World)(hv:RecsIn w hi v ps)(hhi:hi<=w.heap.size)(hn:tot ps<=1048576):
  Calls Tryz.prog 170 #[v,.int .i64 area,.int .i64 a,.int .i64 b] w fun e w'=>e=.returned (.int .i64 (Ze0 (fsts ps) area a b))/\Below w.heap.size w w':=by
 have HNO:=hide (Zgw v ps hi area a w hv hhi hn);obtain⟨a1,c1,rfl⟩:=Zac hv.row;clear hv;unfold Ze0;obtain⟨D,hD⟩:∃ D,D=Zcv (fsts ps) area a:=⟨_,rfl⟩;rw [<-hD] at HNO;rw [<-hD];clear hD;obtain⟨X,hX⟩:∃ X,X=ZgD D.near b:=⟨_,rfl⟩;rw [<-hX];have HX:=hide hX;clear hX;unfold recC at HNO
 go_enter Tryz.func170,Tryz.ntmps170
 go_wp2_with fail
 refine HNO.out.mono ?_
 rintro e w1 ⟨u,rfl,hu,hul,b1⟩;obtain⟨ua,uc,rfl⟩:=ZaB.shape hu;have hx:=heap_alloc_new w1 (.cells #[.int .i64 D.area,.int .i64 D.kind,.int .i64 D.owner,.int .i64 D.key,.int .i64 D.seq,.slice ua D.near.length uc,.int .i64 D.cost,.bool D.far] 128);have BX:Below w1.heap.size w1 (w1.alloc (.cells #[.int .i64 D.area,.int .i64 D.kind,.int .i64 D.owner,.int .i64 D.key,.int .i64 D.seq,.slice ua D.near.length uc,.int .i64 D.cost,.bool D.far] 128)):=(Below.refl _ _).alloc (Nat.le_refl _) _;obtain⟨w2,hw2⟩:∃ W,W=w1.alloc (.cells #[.int .i64 D.area,.int .i64 D.kind,.int .i64 D.owner,.int .i64 D.key,.int .i64 D.seq,.slice ua D.near.length uc,.int .i64 D.cost,.bool D.far] 128):=⟨_,rfl⟩;rw [<-hw2] at hx BX;have B2:Below w.heap.size w w2:=b1.trans (BX.mono b1.size);have HU:Hid (ZaB w2 (.slice ua D.near.length uc) D.near w2.heap.size):=hide ((ZaL.later hu BX (Nat.le_trans hhi b1.size)).more (Nat.le_trans hhi B2.size));have hs2:=Zab hx;have HXX:=hide hx;clear hu hx
 go_wp2
 rw [<-hw2];clear hw2
 go_loopw [11] (fun i wr=>∃ k:Nat,k<=D.near.length/\i=.int .i64 k/\Hid (∀ q∈D.near.take k,q.to≠b)/\Below w2.heap.size w2 wr) (fun i _=>D.near.length-(intOf i).toNat)
 case atStart=>exact ⟨0,by omega,rfl,hide (by simp),Below.refl _ _⟩
 case round=>
  obtain⟨k,hk,rfl,HNN,hnx⟩:=hrel;have hx2:=(hnx.block _ hs2).trans HXX.out;have d5:=Zaa hx2 5;simp at d5
  clear hx2;have BWR:Below w.heap.size w wr:=B2.trans (hnx.mono B2.size);by_cases hlt:k<D.near.length
  ·obtain ⟨n,hnk⟩:∃ n,D.near[k]? = some n:=⟨D.near[k],List.getElem?_eq_getElem hlt⟩
   obtain⟨g,off,cap',hve,hbb,c0,c1⟩:=HU.out.cells k n hnk;cases hve
   rw [<-hnx.cell (p:=⟨g,off+k*2,none⟩) hbb] at c0;rw [<-hnx.cell (p:=⟨g,off+k*2+1,none⟩) hbb] at c1;have hki:(0:Int)<=(k:Int):=by omega
   have hkj:(k:Int)<(D.near.length:Int):=by omega
   by_cases hzz:n.to=b
   ·have HF:=hide (HX.out.trans (Zn5 hnk HNN.out hzz))
    rw [hzz] at c0;clear hnk hzz
    go_wp2
    go_ret
    exact⟨by rw [HF.out];rfl,BWR⟩
   ·have HN:=hide (Zjs hnk HNN.out hzz)
    have hd:(n.to==b)=false:=by simpa using hzz
    clear hnk
    go_wp2
    go_roundw
    case rel=>exact ⟨k+1,by omega,by go_num,HN,hnx⟩
    case measure=>simp [intOf];omega
  ·have HF:=hide (HX.out.trans (Zmu (by have h:=HNN.out;rw [List.take_of_length_le (by omega)] at h;exact h)))
   go_wp2
   go_ret
   exact⟨by rw [HF.out];rfl,BWR⟩
end Go.Proofs.YtnndlmodjkplnaaGreatDoor
