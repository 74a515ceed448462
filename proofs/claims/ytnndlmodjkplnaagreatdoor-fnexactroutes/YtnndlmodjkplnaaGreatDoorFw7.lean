/-
  NodeJ AsK HeardI SameS IKey BefS Reg IBef
-/
import Derived.Test.YtnndlmodjkplnaaGreatDoorFw6
import Derived.Test.YtnndlmodjkplnaaGreatDoorFw1
import Derived.WalkKit
import Derived.LaidEql
import Derived.Stop.Asserts
import Derived.RowKitTokens
import Derived.Laws.Rows
import Derived.Laws.Tables
import Derived.Test.YtnndlmodjkplnaaGreatDoorFw4
import Derived.Deep.RegionHeld3
import Derived.Test.YtnndlmodjkplnaaGreatDoorFw2
import Derived.Laws.StructEq
import Derived.ChangeKeysEq
import Derived.Test.YtnndlmodjkplnaaGreatDoorFw5
namespace Go.Proofs.YtnndlmodjkplnaaGreatDoor
open Go.RowKit
set_option linter.unusedSimpArgs false
set_option linter.unusedVariables false
set_option maxRecDepth 100000
set_option maxHeartbeats 8000000
theorem Zg1 (v1 v2:Value)(es fs:List Th)(w:World)(h1:ZaP w v1 es w.heap.size)(h2:ZaP w v2 fs w.heap.size)(hn:es.length<=1048576):
  Calls Tryz.prog 52 #[v1,v2,.func (.func 54) #[] #[]] w fun e w'=>e=.returned (.bool (ZbK es fs))/\Below w.heap.size w w':=by
 obtain⟨a1,c1,rfl⟩:=h1.shape;obtain⟨a2,c2,rfl⟩:=h2.shape;obtain⟨M,hM⟩:∃ M,M=ZbK es fs:=⟨_,rfl⟩;rw [<-hM];have HM:=hide hM;clear hM;by_cases hl:es.length=fs.length
 ·have K1:=hide h1
  have K2:=hide h2;have HL:=hide hl;have hl2:((es.length:Int) != (fs.length:Int))=false:=by rw [hl];simp
  have hl3:(fs.length:Int)=(es.length:Int):=by omega
  have HL3:=hide hl3;clear h1 h2 hl hl3
  go_enter Tryz.func52,Tryz.ntmps52
  go_wp2
  go_loopw [17] (fun i wr=>∃ k:Nat,k<=es.length/\i=.int .i64 (k:Int)/\Hid (∀ j,j<k->∀ e f,es[j]? = some e->fs[j]? = some f->Zbe e f=true)/\Below w.heap.size w wr) (fun i _=>es.length-(intOf i).toNat)
  case atStart=>exact ⟨0,by omega,rfl,hide (by omega),Below.refl _ _⟩
  case round=>
   obtain⟨k,hk,rfl,HALL,hnx⟩:=hrel;by_cases hlt:k<es.length
   ·have hlt2:k<fs.length:=by have:=HL.out;omega
    obtain⟨e,he⟩:∃ e,es[k]? = some e:=⟨es[k],List.getElem?_eq_getElem hlt⟩;obtain⟨f,hf⟩:∃ f,fs[k]? = some f:=⟨fs[k],List.getElem?_eq_getElem hlt2⟩;obtain⟨b1,o1,cp1,hv1,hb1,d0,d1,d2,d3⟩:=K1.out.cells k e he;obtain⟨b2,o2,cp2,hv2,hb2,g0,g1,g2,g3⟩:=K2.out.cells k f hf;cases hv1
    cases hv2
    have HE:=hide he;have HF:=hide hf;have HEO:=hide (fun W=>Zm0 e f W)
    obtain⟨q,hq⟩:∃ q,q=Zbe e f:=⟨_,rfl⟩;rw [<-hq] at HEO;have HQ:=hide hq;clear hq he hf;obtain⟨eo,ek,ec,ef⟩:=e;obtain⟨fo,fk,fc,ff⟩:=f;unfold thV at HEO;simp only [] at HEO d0 d1 d2 d3 g0 g1 g2 g3
    rw [<-hnx.cell (p:=⟨b1,o1+k*4,none⟩) hb1] at d0;rw [<-hnx.cell (p:=⟨b1,o1+k*4+1,none⟩) hb1] at d1;rw [<-hnx.cell (p:=⟨b1,o1+k*4+2,none⟩) hb1] at d2;rw [<-hnx.cell (p:=⟨b1,o1+k*4+3,none⟩) hb1] at d3;rw [<-hnx.cell (p:=⟨b2,o2+k*4,none⟩) hb2] at g0;rw [<-hnx.cell (p:=⟨b2,o2+k*4+1,none⟩) hb2] at g1;rw [<-hnx.cell (p:=⟨b2,o2+k*4+2,none⟩) hb2] at g2;rw [<-hnx.cell (p:=⟨b2,o2+k*4+3,none⟩) hb2] at g3;rw [<-World.cell?_alloc_lt wr (.cells #[.int .i64 eo,.int .i64 ek,.int .i64 ec,.bool ef] 58) ⟨b2,o2+k*4,none⟩ (by have:=hnx.size;show b2<_;omega)] at g0
    rw [<-World.cell?_alloc_lt wr (.cells #[.int .i64 eo,.int .i64 ek,.int .i64 ec,.bool ef] 58) ⟨b2,o2+k*4+1,none⟩ (by have:=hnx.size;show b2<_;omega)] at g1
    rw [<-World.cell?_alloc_lt wr (.cells #[.int .i64 eo,.int .i64 ek,.int .i64 ec,.bool ef] 58) ⟨b2,o2+k*4+2,none⟩ (by have:=hnx.size;show b2<_;omega)] at g2
    rw [<-World.cell?_alloc_lt wr (.cells #[.int .i64 eo,.int .i64 ek,.int .i64 ec,.bool ef] 58) ⟨b2,o2+k*4+3,none⟩ (by have:=hnx.size;show b2<_;omega)] at g3
    have hki:(0:Int)<=(k:Int):=by omega
    have hkj:(k:Int)<(es.length:Int):=by omega
    have hkl:(k:Int)<(fs.length:Int):=by omega
    have BW:Below w.heap.size w ((wr.alloc (.cells #[.int .i64 eo,.int .i64 ek,.int .i64 ec,.bool ef] 58)).alloc (.cells #[.int .i64 fo,.int .i64 fk,.int .i64 fc,.bool ff] 58)):=(hnx.alloc (by exact hnx.size) _).alloc (by simp;have:=hnx.size;omega) _
    clear hnx
    go_wp2_with fail
    refine (HEO.out _).mono ?_
    rintro r w1 ⟨rfl,b1⟩;have B1:Below w.heap.size w w1:=BW.trans (b1.mono BW.size);clear BW b1;cases q with
    | true=>
     go_wp2
     go_roundw
     case rel=>exact ⟨k+1,by omega,by go_num,hide (fun j hj e' f' he' hf'=>by
      by_cases e:j=k
      ·subst e
       rw [HE.out] at he';rw [HF.out] at hf';cases he'
       cases hf'
       exact HQ.out.symm
      ·exact HALL.out j (by omega) e' f' he' hf'),B1⟩
     case measure=>simp [intOf];omega
    | false=>
     have HN:=hide (show M=false by rw [HM.out];exact Zi7 HE.out HF.out HQ.out.symm)
     go_wp2
     go_ret
     exact⟨Zag HN.out,B1⟩
   ·have HN:=hide (show M=true by rw [HM.out];exact ZlT HL.out (fun i hi=>HALL.out i (by omega)))
    have hkn:¬(k:Int)<(es.length:Int):=by omega
    go_wp2
    go_ret
    exact⟨Zag HN.out,hnx⟩
 ·have hd:((es.length:Int) != (fs.length:Int))=true:=by simp;omega
  have HN:=hide (show M=false by rw [HM.out];exact Zfg hl)
  clear h1 h2
  go_enter Tryz.func52,Tryz.ntmps52
  go_wp2
  go_ret
  exact⟨Zag HN.out,Below.refl _ _⟩
theorem Zg6 {ls:List Lk}{id:Int}{v a:Nat}(hv:1<=v)(ha:a<3)(h:0<ZbS ls id (v:Int) (a:Int)):Zav ls id (3*(v-1)+a+1)=Zav ls id (3*(v-1)+a)++[⟨(v:Int),(a:Int),0,false⟩]:=by
 have e:((v-1:Nat):Int)+1=(v:Int):=by omega
 have:=Zm9 (ls:=ls) (id:=id) (v:=v-1) ha (by rw [e];exact h)
 rw [this,e]
theorem ZiN {ls:List Lk}{id:Int}{v a:Nat}(hv:1<=v)(ha:a<3)(h:¬0<ZbS ls id (v:Int) (a:Int)):Zav ls id (3*(v-1)+a+1)=Zav ls id (3*(v-1)+a):=by
 have e:((v-1:Nat):Int)+1=(v:Int):=by omega
 exact ZoE (ls:=ls) (id:=id) (v:=v-1) ha (by rw [e];exact h)
theorem ZiW (v1 v2 v3 v4:Value)(x:SelfD)(ps:List RP)(N:Nat)(w:World)(hN:x.net.n=(N:Int))(hN6:N<=6)(hl:x.net.ls.length<=1048576)(hv:SelfIn w v1 v2 v3 v4 x ps w.heap.size):
  Calls Tryz.prog 53 #[Zfp x v1 v2 v3 v4] w fun e w'=>∃ u,e=.returned u/\w'.ownsRow w.heap.size 58 4 u (Zav x.net.ls x.id (3*N)).length (flat thE (Zav x.net.ls x.id (3*N)))/\Below w.heap.size w w':=by
 obtain⟨⟨a1,c1,rfl⟩,⟨a2,c2,rfl⟩,⟨a3,c3,rfl⟩,⟨a4,c4,rfl⟩⟩:=hv.shapes;have HC:=hide (fun (t r:Int) W (hb:Below w.heap.size w W)=>ZiV (.int .i64 (N:Int)) (.slice a1 x.net.ls.length c1) (.slice a2 x.net.ts.length c2) x.net.ls x.id t r W hl (hv.then hb).links)
 clear hv;obtain⟨xid,xboot,⟨xn,xls,xts⟩,xh⟩:=x;simp only [] at hN hl HC |-
 subst hN;have B0:Below w.heap.size w (w.alloc (.cells #[.int .i64 xid,.int .i64 xboot,.int .i64 (N:Int),.slice a1 xls.length c1,.slice a2 xts.length c2,.slice a3 xh.length c3,.slice a4 ps.length c4] 41)):=(Below.refl _ _).alloc (Nat.le_refl _) _;have g0:=heap_alloc_new w (.cells #[.int .i64 xid,.int .i64 xboot,.int .i64 (N:Int),.slice a1 xls.length c1,.slice a2 xts.length c2,.slice a3 xh.length c3,.slice a4 ps.length c4] 41);have G0:=hide g0;have HB0:=hide B0;clear g0 B0
 go_enter Tryz.func53,Tryz.ntmps53
 go_wp2
 obtain⟨w0,hw0⟩:∃ W,W=w.alloc (.cells #[.int .i64 xid,.int .i64 xboot,.int .i64 (N:Int),.slice a1 xls.length c1,.slice a2 xts.length c2,.slice a3 xh.length c3,.slice a4 ps.length c4] 41):=⟨_,rfl⟩;rw [<-hw0] at HB0 G0
 first
  | rw [<-hw0]
  | skip
 clear hw0
 go_loopw [4,3] (fun i o wr=>∃ (v:Nat) (u:Value) (fs:List Th),1<=v/\v<=N+1/\i=.int .i64 (v:Int)/\o=u/\Hid (fs=Zav xls xid (3*(v-1)))/\fs.length<=30/\wr.ownsRow w0.heap.size 58 4 u fs.length (flat thE fs)/\Below w0.heap.size w0 wr) (fun i _ _=>8-(intOf i).toNat)
 case atStart=>exact ⟨1,_,[],by omega,by omega,rfl,rfl,hide rfl,by simp,World.ownsRow_nil _ _ _ _,Below.refl _ _⟩
 case round=>
  rename World=>wa
  obtain⟨v,u,fs,hv1,hvN,rfl,rfl,HFS,hfl,hown,hba⟩:=hrel;obtain⟨ua,uc,rfl⟩:=Zac hown;have ga:=(hba.block _ (Zab G0.out)).trans G0.out;have n2:=Zaa ga 2;simp at n2
  have hwa:w.heap.size<wa.heap.size:=Zab ga;by_cases hlt:v<=N
  ·have hltI:(v:Int)<=(N:Int):=by omega
   have HOWN:=hide hown;have HBA:=hide hba;clear hown hba ga
   go_wp2
   go_loopw [13,3] (fun i o wr=>∃ (a:Nat) (u:Value) (fs:List Th),a<=3/\i=.int .i64 (a:Int)/\o=u/\Hid (fs=Zav xls xid (3*(v-1)+a))/\fs.length<=30/\wr.ownsRow w0.heap.size 58 4 u fs.length (flat thE fs)/\Below w0.heap.size w0 wr) (fun i _ _=>4-(intOf i).toNat)
   case atStart=>exact ⟨0,_,fs,by omega,rfl,rfl,hide HFS.out,hfl,HOWN.out,HBA.out⟩
   case round=>
    rename World=>wb
    clear HFS hfl HOWN HBA n2;obtain⟨a,u,fs,ha3,rfl,rfl,HFS,hfl,hown,hbb⟩:=hrel;obtain⟨ua,uc,rfl⟩:=Zac hown;have gb:=(hbb.block _ (Zab G0.out)).trans G0.out;have m0:=Zaa gb 0;have m2:=Zaa gb 2;have m3:=Zaa gb 3;have m4:=Zaa gb 4;simp at m0 m2 m3 m4
    have hwb:w.heap.size<wb.heap.size:=Zab gb;have hbbw:Below w.heap.size w wb:=HB0.out.trans (hbb.mono HB0.out.size);by_cases hal:a<3
    ·have halI:(a:Int)<3:=by omega
     have HOWN:=hide hown;have HBB:=hide hbb;have hfl2:fs.length<=3*(v-1)+a:=by rw [HFS.out];exact Zf3 _ _ _
     clear hown hbb gb
     go_wp2_with fail
     refine (HC.out _ _ _ hbbw).mono ?_
     rintro e w1 ⟨rfl,b1⟩;have hb1:=b1.size;have B1:=hide (HBB.out.trans (b1.mono HBB.out.size));have OW1:=hide (Zaf HOWN.out b1 (Nat.le_refl _));obtain⟨C,hC⟩:∃ C,C=ZbS xls xid (v:Int) (a:Int):=⟨_,rfl⟩;rw [<-hC];have HCC:=hide hC;clear b1 HOWN HBB hC hbbw m0 m2 m3 m4;by_cases hc:0<C
     ·have hd:decide (0<C)=true:=decide_eq_true hc
      have HN:=hide (show fs++[⟨(v:Int),(a:Int),0,false⟩]=Zav xls xid (3*(v-1)+(a+1)) by
       have:=Zg6 (ls:=xls) (id:=xid) hv1 hal (by rw [<-HCC.out];exact hc)
       rw [<-Nat.add_assoc,this,HFS.out])
      have HOB:=hide (fun j (hj:(Value.slice ua fs.length uc).ownBlock=some j)=>(OW1.out.lt j hj).1)
      have BA1:=hide (B1.out.alloc (by have:=B1.out.size;omega) (.cells (thE ⟨(v:Int),(a:Int),0,false⟩).toArray 58))
      go_wp2_with (first
       | (at_builtin;refine Zd9 Zdz (by omega) ZpU (by omega) _ rfl _ _ 42 rfl w0.heap.size 58 Tryz.underlying42 (thV th0) rfl Tryz.infoEar _ fs ⟨(v:Int),(a:Int),0,false⟩ rfl (OW1.out.alloc _) ⟨w1.heap.size,0,none⟩ 1 rfl (Zaz (cs:=thE ⟨(v:Int),(a:Int),0,false⟩)) (by omega) (Nat.le_trans B1.out.size (by simp)) ?_))
      intro u' w2 l' hl' hown' hgrow;have N2:=hide (show Below w0.heap.size w0 w2 from BA1.out.grown hgrow (by have:=BA1.out.size;omega) HOB.out)
      obtain⟨ua',uc',rfl⟩:=Zac hown';have N1:=hide hown';have HL2:=hide (show l'=Zav xls xid (3*(v-1)+(a+1)) by rw [hl'.out];exact HN.out)
      have hll:l'.length<=30:=by rw [hl'.out];simp;omega
      clear hown' hgrow OW1 HOB B1 BA1 hl' HN
      go_wp2
      go_roundw
      case rel=>exact ⟨a+1,_,l',by omega,by go_num,rfl,HL2,hll,N1.out,N2.out⟩
      case measure=>simp [intOf];omega
     ·have hd:decide (0<C)=false:=decide_eq_false hc
      have HN:=hide (show fs=Zav xls xid (3*(v-1)+(a+1)) by
       have:=ZiN (ls:=xls) (id:=xid) hv1 hal (by rw [<-HCC.out];exact hc)
       rw [<-Nat.add_assoc,this,HFS.out])
      go_wp2
      go_roundw
      case rel=>exact ⟨a+1,_,fs,by omega,by go_num,rfl,HN,hfl,OW1.out,B1.out⟩
      case measure=>simp [intOf];omega
    ·have hal2:¬(a:Int)<3:=by omega
     have ha3':a=3:=by omega
     have HOWN:=hide hown;have HBB:=hide hbb;have HN:=hide (show fs=Zav xls xid (3*(v+1-1)) by rw [HFS.out];congr 1;omega)
     clear hown hbb gb m0 m2 m3 m4 ha3'
     go_wp2
     go_roundw
     case rel=>exact ⟨v+1,_,fs,by omega,by omega,by go_num,rfl,HN,hfl,HOWN.out,HBB.out⟩
     case measure=>simp [intOf];omega
  ·have hltI:¬(v:Int)<=(N:Int):=by omega
   have HE:=hide (show fs=Zav xls xid (3*N) by rw [HFS.out];congr 1;omega)
   have HO:=hide hown;have HN:=hide (HB0.out.trans (hba.mono HB0.out.size));clear hown hba ga HFS
   go_wp2
   go_ret
   rw [<-HE.out];exact⟨_,rfl,Zah HO.out HB0.out.size,HN.out⟩
end Go.Proofs.YtnndlmodjkplnaaGreatDoor
namespace Go.Proofs.YtnndlmodjkplnaaGreatDoor
open Go.RowKit Go.Extern.Stop Go.Stop Go.Extern

theorem as_nil (t:Value)(w:World):Calls Tryz.prog 50 #[.nilIface,t] w fun e w'=>e=.returned (.bool false)/\w=w':=by
 go_enter Tryz.func50,Tryz.ntmps50
 go_wp2
 go_ret
 exact⟨rfl,rfl⟩

theorem ZjI (t:Addr)(w:World):(ReflectliteValue.unpack (.iface 93 (.pointer (some t)))).run Tryz.prog w=.ok (.agg #[.pointer (some ⟨1,93,none⟩),.pointer (some ⟨w.heap.size,0,none⟩),.int .u64 150]) (w.alloc (.cells #[.pointer (some t)] 93)):=by kernel_rfl
theorem Zoo (a:Addr)(w:World):(ReflectliteValue.methodAny (ReflectliteValue.valueError "reflectlite.Value.Type" 0) (fun t _ _ _=>ReflectliteType.toType t) #[.agg #[.pointer (some ⟨1,93,none⟩),.pointer (some a),.int .u64 150]]).run Tryz.prog w=.ok (.iface 176 (.agg #[.pointer (some ⟨1,93,none⟩)])) w:=by kernel_rfl
theorem ZhE (h:Value)(w:World):(Go.method 436 176 (.agg #[h]) "Kind").run Tryz.prog w=.ok (242,h) w:=by kernel_rfl
theorem Zom (w:World):((ReflectliteType.abiMethod fun t=>(fun a:Nat=>Value.int IntKind.u8 (a:Int)) <$> Rtype.kind t) #[.pointer (some ⟨1,93,none⟩)]).run Tryz.prog w=.ok (.int .u8 22) w:=by kernel_rfl
theorem Zon (w:World):((ReflectliteType.abiMethod fun t=>(fun a:Nat=>Value.int IntKind.u8 (a:Int)) <$> Rtype.kind t) #[.pointer (some ⟨1,91,none⟩)]).run Tryz.prog w=.ok (.int .u8 25) w:=by kernel_rfl
theorem Zpq (z:Sem Value)(f:TypeId->Addr->Nat->Nat->Sem Value)(v:Value):ReflectliteValue.method z f #[v]=(do match <-ReflectliteValue.parts v with | none=>z | some (t,a,fl)=>f t a fl (fl%32)):=rfl
theorem Ziu (a:Addr)(w:World):(ReflectliteValue.parts (.agg #[.pointer (some ⟨1,93,none⟩),.pointer (some a),.int .u64 150])).run Tryz.prog w=.ok (some (93,a,150)) w:=by kernel_rfl
theorem ZmL (a p:Addr)(W:World)(ha:W.cell? a=some (.pointer (some p))):
  (ReflectliteValue.method (ReflectliteValue.valueError "reflectlite.Value.IsNil" 0) ReflectliteValue.isNil #[.agg #[.pointer (some ⟨1,93,none⟩),.pointer (some a),.int .u64 150]]).run Tryz.prog W=.ok (.bool false) W:=by
 rw [Zpq];simp only [Sem.run_bind,Ziu,Result.andThen]
 simp [ReflectliteValue.isNil,loadVar,isAgg,underlying,Tryz.underlying93,ha,Result.andThen]
theorem ZhD (h:Value)(w:World):(Go.method 436 176 (.agg #[h]) "Elem").run Tryz.prog w=.ok (256,.agg #[h]) w:=by kernel_rfl
theorem Zeg (h:Value)(w:World):(Go.method 436 176 (.agg #[h]) "Implements").run Tryz.prog w=.ok (257,.agg #[h]) w:=by kernel_rfl
theorem ZdC (h:Value)(w:World):(Go.method 436 176 (.agg #[h]) "AssignableTo").run Tryz.prog w=.ok (254,.agg #[h]) w:=by kernel_rfl
theorem Zol (w:World):(ReflectliteType.method ReflectliteType.elem #[.agg #[.pointer (some ⟨1,93,none⟩)]]).run Tryz.prog w=.ok (.iface 176 (.agg #[.pointer (some ⟨1,91,none⟩)])) w:=by kernel_rfl
theorem ZgJ (w:World):(ReflectliteType.relation "Implements" ReflectliteType.implements_ #[.agg #[.pointer (some ⟨1,91,none⟩)],.iface 176 (.agg #[.pointer (some ⟨1,66,none⟩)])]).run Tryz.prog w=.ok (.bool true) w:=by kernel_rfl
theorem Zlm (v:Value)(w:World):(ReflectliteType.typeOf #[.iface 91 v]).run Tryz.prog w=.ok (.iface 176 (.agg #[.pointer (some ⟨1,91,none⟩)])) w:=by kernel_rfl
theorem ZgI (w:World):(ReflectliteType.relation "AssignableTo" ReflectliteType.assignableTo #[.agg #[.pointer (some ⟨1,91,none⟩)],.iface 176 (.agg #[.pointer (some ⟨1,91,none⟩)])]).run Tryz.prog w=.ok (.bool true) w:=by kernel_rfl
theorem ZjJ (e:Value)(w:World):(ReflectliteValue.unpack (.iface 91 (.agg #[e]))).run Tryz.prog w=.ok (.agg #[.pointer (some ⟨1,91,none⟩),.pointer (some ⟨w.heap.size,0,none⟩),.int .u64 153]) (w.alloc (.cells #[e] 91)):=by kernel_rfl
theorem Zll (w:World):(Rtype.elem? 93).run Tryz.prog w=.ok (some 91) w:=by kernel_rfl
theorem as_mkT (p:Addr)(w:World):(ReflectliteValue.mk 91 p ReflectliteValue.flagAddr).run Tryz.prog w=.ok (.agg #[.pointer (some ⟨1,91,none⟩),.pointer (some p),.int .u64 409]) w:=by kernel_rfl
theorem ZmK (a p:Addr)(W:World)(ha:W.cell? a=some (.pointer (some p))):
  (ReflectliteValue.method (ReflectliteValue.valueError "reflectlite.Value.Elem" 0) ReflectliteValue.elem #[.agg #[.pointer (some ⟨1,93,none⟩),.pointer (some a),.int .u64 150]]).run Tryz.prog W
   = .ok (.agg #[.pointer (some ⟨1,91,none⟩),.pointer (some p),.int .u64 409]) W:=by
 rw [Zpq];simp only [Sem.run_bind,Ziu,Result.andThen]
 simp [ReflectliteValue.elem,loadVar,isAgg,underlying,Tryz.underlying93,ha,Result.andThen,Zll,as_mkT]
theorem as_rls (v x:Value):ReflectliteValue.set #[v,x]=(do
  let (some (dst,a,fl),some (src,b,_)):=(<-ReflectliteValue.parts v, <-ReflectliteValue.parts x)
   | unsupported (.noEntry "extern/(internal/reflectlite.Value).Set.zeroValue")
  if fl / ReflectliteValue.flagAddr%2==0 then unsupported (.noEntry "extern/(internal/reflectlite.Value).Set.unaddressable")
  let val <-loadVar src b
  if <-Rtype.directlyAssignable dst src then storeVar dst a val
  else if <-Rtype.implements dst src then
   if (<-Rtype.kind src)==20 then
    match val with
    | .nilIface=>unsupported (.noEntry "extern/reflectlite: a nil value of one interface type handed on as a value of another")
    | _=>storeVar dst a val
   else storeVar dst a (.iface src val)
  else panicString ("reflectlite.Set: value of type " ++ (<-Rtype.spelt src) ++ " is not assignable to type " ++ (<-Rtype.spelt dst))
  pure (.tuple #[])):=rfl
theorem ZmM (a:Addr)(w:World):(ReflectliteValue.parts (.agg #[.pointer (some ⟨1,91,none⟩),.pointer (some a),.int .u64 409])).run Tryz.prog w=.ok (some (91,a,409)) w:=by kernel_rfl
theorem ZmN (a:Addr)(w:World):(ReflectliteValue.parts (.agg #[.pointer (some ⟨1,91,none⟩),.pointer (some a),.int .u64 153])).run Tryz.prog w=.ok (some (91,a,153)) w:=by kernel_rfl
theorem ZmJ (w:World):(Rtype.directlyAssignable 91 91).run Tryz.prog w=.ok true w:=by kernel_rfl
theorem ZmO:(Tryz.prog.info? 91).map (·.size)=some 1:=by kernel_rfl
theorem Zpx (z b:Nat)(code old:Int)(W:World)(hb:W.heap[b]? = some (.cells #[.int .i64 code] 91))(hz:W.heap[z]? = some (.cells #[.int .i64 old] 91)):
  (ReflectliteValue.set #[.agg #[.pointer (some ⟨1,91,none⟩),.pointer (some ⟨z,0,none⟩),.int .u64 409],.agg #[.pointer (some ⟨1,91,none⟩),.pointer (some ⟨b,0,none⟩),.int .u64 153]]).run Tryz.prog W
   = .ok (.tuple #[]) (W.setRow z #[.int .i64 code]):=by
 have hl:=run_loadVar_row (P:=Tryz.prog) W b 91 91 _ _ _ hb Tryz.underlying91 rfl ZmO;have hs:=run_storeVar_row (P:=Tryz.prog) W z 91 91 _ #[.int .i64 code] hz ZmO rfl (by simp [Value.oneCell'])
 rw [as_rls];simp only [Sem.run_bind,ZmM,ZmN,Result.andThen]
 simp [ReflectliteValue.flagAddr,hl,hs,Result.andThen,ZmJ]

set_option maxHeartbeats 4000000 in
theorem as_hit (z:Nat)(code:Int)(w:World) (hg:w.cell? ⟨0,0,none⟩=some (.iface 176 (.agg #[.pointer (some ⟨1,66,none⟩)]))) (hz:w.heap[z]? = some (.cells #[.int .i64 0] 91)):
  Calls Tryz.prog 50 #[.iface 91 (.agg #[.int .i64 code]),.iface 93 (.pointer (some ⟨z,0,none⟩))] w fun ev w'=>ev=.returned (.bool true)/\w'=((((w.alloc (.cells #[.pointer (some ⟨z,0,none⟩)] 93)).alloc (.cells #[.pointer (some ⟨1,93,none⟩),.pointer (some ⟨w.heap.size,0,none⟩),.int .u64 150] 136)).alloc (.cells #[.pointer (some ⟨1,93,none⟩),.pointer (some ⟨w.heap.size,0,none⟩),.int .u64 150] 136)).alloc (.cells #[.int .i64 code] 91)).setRow z #[.int .i64 code]:=by
 have hVO:=@run_callFunc_extern Tryz.prog 85 _ (fun args=>ReflectliteValue.unpack (args.getD 0 (.tuple #[]))) Tryz.func85 (by kernel_rfl) (by kernel_rfl) (by kernel_rfl) (by kernel_rfl)
 have hTY:=@run_callFunc_extern Tryz.prog 86 _ (ReflectliteValue.methodAny (ReflectliteValue.valueError "reflectlite.Value.Type" 0) (fun t _ _ _=>ReflectliteType.toType t)) Tryz.func86 (by kernel_rfl) (by kernel_rfl) (by kernel_rfl) (by kernel_rfl)
 have hNI:=@run_callFunc_extern Tryz.prog 87 _ (ReflectliteValue.method (ReflectliteValue.valueError "reflectlite.Value.IsNil" 0) ReflectliteValue.isNil) Tryz.func87 (by kernel_rfl) (by kernel_rfl) (by kernel_rfl) (by kernel_rfl)
 have hKI:=@run_callFunc_extern Tryz.prog 242 _ (ReflectliteType.abiMethod fun t=>do pure (.int .u8 (<-Rtype.kind t))) Tryz.func242 (by kernel_rfl) (by kernel_rfl) (by kernel_rfl) (by kernel_rfl)
 have hRE:=@run_callFunc_extern Tryz.prog 256 _ (ReflectliteType.method ReflectliteType.elem) Tryz.func256 (by kernel_rfl) (by kernel_rfl) (by kernel_rfl) (by kernel_rfl)
 have hIM:=@run_callFunc_extern Tryz.prog 257 _ (ReflectliteType.relation "Implements" ReflectliteType.implements_) Tryz.func257 (by kernel_rfl) (by kernel_rfl) (by kernel_rfl) (by kernel_rfl)
 have hTO:=@run_callFunc_extern Tryz.prog 123 _ ReflectliteType.typeOf Tryz.func123 (by kernel_rfl) (by kernel_rfl) (by kernel_rfl) (by kernel_rfl)
 have hAS:=@run_callFunc_extern Tryz.prog 254 _ (ReflectliteType.relation "AssignableTo" ReflectliteType.assignableTo) Tryz.func254 (by kernel_rfl) (by kernel_rfl) (by kernel_rfl) (by kernel_rfl)
 have hEL:=@run_callFunc_extern Tryz.prog 124 _ (ReflectliteValue.method (ReflectliteValue.valueError "reflectlite.Value.Elem" 0) ReflectliteValue.elem) Tryz.func124 (by kernel_rfl) (by kernel_rfl) (by kernel_rfl) (by kernel_rfl)
 have hSE:=@run_callFunc_extern Tryz.prog 125 _ ReflectliteValue.set Tryz.func125 (by kernel_rfl) (by kernel_rfl) (by kernel_rfl) (by kernel_rfl)
 have tO:=Zlm;have mA:=ZdC;have aT:=ZgI;have vT:=ZjJ;have f6:=ZjI;have f7:=Zoo;have mK:=ZhE;have mE:=ZhD;have mI:=Zeg;have kP:=Zom;have kT:=Zon;have eP:=Zol;have iT:=ZgJ;have n8:=ZmL ⟨w.heap.size,0,none⟩ ⟨z,0,none⟩ ((w.alloc (.cells #[.pointer (some ⟨z,0,none⟩)] 93)).alloc (.cells #[.pointer (some ⟨1,93,none⟩),.pointer (some ⟨w.heap.size,0,none⟩),.int .u64 150] 136)) (by simp)
 have hlt:0<w.heap.size:=by
  rcases Nat.eq_zero_or_pos w.heap.size with h0 | h
  ·simp [World.cell?,h0] at hg
  ·exact h
 have hg2:((w.alloc (.cells #[.pointer (some ⟨z,0,none⟩)] 93)).alloc (.cells #[.pointer (some ⟨1,93,none⟩),.pointer (some ⟨w.heap.size,0,none⟩),.int .u64 150] 136)).cell? ⟨0,0,none⟩=some (.iface 176 (.agg #[.pointer (some ⟨1,66,none⟩)])):=by
  rw [World.cell?_alloc_lt _ _ ⟨0,0,none⟩ (by simp),World.cell?_alloc_lt _ _ ⟨0,0,none⟩ hlt];exact hg
 have hzl:=Zab hz;have el:=ZmK ⟨w.heap.size,0,none⟩ ⟨z,0,none⟩ (((w.alloc (.cells #[.pointer (some ⟨z,0,none⟩)] 93)).alloc (.cells #[.pointer (some ⟨1,93,none⟩),.pointer (some ⟨w.heap.size,0,none⟩),.int .u64 150] 136)).alloc (.cells #[.pointer (some ⟨1,93,none⟩),.pointer (some ⟨w.heap.size,0,none⟩),.int .u64 150] 136)) (by rw [World.cell?_alloc_lt _ _ ⟨w.heap.size,0,none⟩ (by simp;omega)];simp)
 have st:=Zpx z (w.heap.size+1+1+1) code 0 ((((w.alloc (.cells #[.pointer (some ⟨z,0,none⟩)] 93)).alloc (.cells #[.pointer (some ⟨1,93,none⟩),.pointer (some ⟨w.heap.size,0,none⟩),.int .u64 150] 136)).alloc (.cells #[.pointer (some ⟨1,93,none⟩),.pointer (some ⟨w.heap.size,0,none⟩),.int .u64 150] 136)).alloc (.cells #[.int .i64 code] 91))
  (by have:=heap_alloc_new (((w.alloc (.cells #[.pointer (some ⟨z,0,none⟩)] 93)).alloc (.cells #[.pointer (some ⟨1,93,none⟩),.pointer (some ⟨w.heap.size,0,none⟩),.int .u64 150] 136)).alloc (.cells #[.pointer (some ⟨1,93,none⟩),.pointer (some ⟨w.heap.size,0,none⟩),.int .u64 150] 136)) (.cells #[.int .i64 code] 91);simpa using this)
  (by rw [Below.heap_alloc _ _ _ (by simp;omega),Below.heap_alloc _ _ _ (by simp;omega),Below.heap_alloc _ _ _ (by simp;omega),Below.heap_alloc _ _ _ hzl];exact hz)
 clear hz hg
 go_enter Tryz.func50,Tryz.ntmps50
 go_wp2
 refine wp_loop_rounds 1 ?_
 rw [rounds_succ]
 go_wp2
 go_ret
 exact⟨rfl,rfl⟩
end Go.Proofs.YtnndlmodjkplnaaGreatDoor
namespace Go.Proofs.YtnndlmodjkplnaaGreatDoor
open Go.RowKit
set_option linter.unusedSimpArgs false
set_option linter.unusedVariables false
set_option maxRecDepth 100000
set_option maxHeartbeats 8000000
def heV (p:Int × Int):Value:=.agg #[.int .i64 p.1,.int .i64 p.2]
def heE (p:Int × Int):List Value:=[.int .i64 p.1,.int .i64 p.2]
theorem Znf (p:Int × Int):(heE p).length=2:=rfl
theorem ZpE (p:Int × Int):∀ u∈heE p,u.oneCell'=true:=by
 intro u hu;simp only [heE,List.mem_cons,List.not_mem_nil,or_false] at hu
 rcases hu with rfl | rfl <;> rfl
def Zea (W:World)(v:Value)(ls:List (Int × Int))(B:Nat):Prop:=ZaD heE 2 W v ls B
instance:Inhabited (Int × Int):=⟨(0,0)⟩
theorem Zea.shape {W:World}{v:Value}{ls:List (Int × Int)}{B:Nat}(h:Zea W v ls B):∃ a cap,v=.slice a ls.length cap:=by
 obtain⟨a,cap,h,_⟩:=h;exact⟨a,cap,h⟩
theorem Zea.cells {W:World}{v:Value}{ls:List (Int × Int)}{B:Nat}(h:Zea W v ls B)(i:Nat)(p:Int × Int)(hp:ls[i]? = some p):
  ∃ b off cap,v=.slice (some ⟨b,off,none⟩) ls.length cap/\b<B/\W.cell? ⟨b,off+i*2,none⟩=some (.int .i64 p.1)/\W.cell? ⟨b,off+i*2+1,none⟩=some (.int .i64 p.2):=by
 obtain⟨b,off,cap,hv,hb,hc⟩:=ZaD.cell h Znf i p hp;exact⟨b,off,cap,hv,hb,hc 0 _ rfl,hc 1 _ rfl⟩
theorem Tryz.infoEnd:(Tryz.prog.info? 193).map (fun i=>(i.zero,i.size,i.bytes))=some (some (.agg #[.int .i64 0,.int .i64 0]),2,16):=by kernel_rfl
theorem ZeW {α:Type}{enc:α->List Value}{sz bytes:Nat}(hlen:∀ a,(enc a).length=sz)(hpos:0<sz)(hbb:bytes<=100){P:Program}{ops:Array Oper}{o:Oper}{a:Act}{w:World}{K:Act->World->Prop}{Q:Exit->Act->World->Prop}{E:Prop}(hgd:o.guard=none)(s x:Operand)(t:TypeId)
  (ho:o.op=.call { callee:=.builtin .append,args:=#[s,x],argTypes:=#[t,t] }) (base:Nat) (e:TypeId) (ht:P.underlying t=some (.slice e)) (zv:Value) (hzv:zv.cells.size=sz)
  (hinfo:(P.info? e).map (fun i=>(i.zero,i.size,i.bytes))=some (some zv,sz,bytes))
  (v:Value) (l:List α) (y:α) (hone:∀ u∈enc y,u.oneCell'=true) (hs:a.eval s=v) (hown:w.ownsRow base e sz v l.length (flat enc l))
  (ad:Addr) (c:Nat) (hx:a.eval x=.slice (some ad) 1 c) (hnews:∀ j u,(enc y)[j]? = some u->w.cell? (ad.add j)=some u)
  (hl:l.length+1<=1000000000) (hbase:base<=w.heap.size)
  (h:∀ v' w',w'.ownsRow base e sz v' (l++[y]).length (flat enc (l++[y]))->w.grownBy w' v.ownBlock->K (a.put o.dst v') w'):
  if Region.wanted o (yielded ops a.tmps)=true then Oper.wp P o a w K Q else E:=by
 have hw:Region.wanted o (yielded ops a.tmps)=true:=by simp [Region.wanted,hgd]
 rw [if_pos hw];obtain⟨i0,hi,hz0,hz1,hz2⟩:=info_parts hinfo;refine wp_append_own w s x t ho base e i0 zv sz bytes ht hi hz0 hz1 hz2 hzv hpos v l.length (flat enc l) hs hown ad 1 c (enc y) hx (by rw [hlen];omega) hnews hone (by unfold maxLen;omega) ?_ hbase ?_
 ·have:(l.length+1)*bytes<=1000000000*100:=Nat.mul_le_mul hl hbb
  omega
 ·intro v' w' h1 h2 _
  have e1:flat enc l++enc y=flat enc (l++[y]):=by rw [ZaK];simp [flat]
  rw [e1] at h1;exact h v' w' (by simpa using h1) h2
theorem ZoX (l m:Int × Int)(w:World):Calls Tryz.prog 130 #[heV l,heV m] w fun e w'=>e=.returned (.int .i64 (ordH l m))/\Below w.heap.size w w':=by
 obtain⟨o,k⟩:=l;obtain⟨o',k'⟩:=m;unfold heV ordH;simp only []
 go_enter Tryz.func130,Tryz.ntmps130
 go_wp2
 obtain⟨w1,hw1⟩:∃ w1,w1=(w.alloc (.cells #[.int .i64 o,.int .i64 k] 193)).alloc (.cells #[.int .i64 o',.int .i64 k'] 193):=⟨_,rfl⟩;have B1:Below w.heap.size w w1:=by rw [hw1];exact Zan _ _
 have p0:w1.heap[w.heap.size]? = some (.cells #[.int .i64 o,.int .i64 k] 193):=by rw [hw1,Below.heap_alloc _ _ _ (by simp),heap_alloc_new]
 have q0:w1.heap[w.heap.size+1]? = some (.cells #[.int .i64 o',.int .i64 k'] 193):=by
  rw [hw1];have:=heap_alloc_new (w.alloc (.cells #[.int .i64 o,.int .i64 k] 193)) (.cells #[.int .i64 o',.int .i64 k'] 193)
  simpa using this
 rw [<-hw1];clear hw1;have s0:=Zaa p0 0;have s1:=Zaa p0 1;have t0:=Zaa q0 0;have t1:=Zaa q0 1;have hz0:=Zab p0;have hz1:=Zab q0;simp at s0 s1 t0 t1
 clear p0 q0;have hz2:=B1.size
 go_region_held3 (fun W=>W.cell? ⟨w.heap.size,0,none⟩=some (.int .i64 o)/\W.cell? ⟨w.heap.size,1,none⟩=some (.int .i64 k)/\W.cell? ⟨w.heap.size+1,0,none⟩=some (.int .i64 o')/\W.cell? ⟨w.heap.size+1,1,none⟩=some (.int .i64 k')) (first | go_keep | assumption) (first | (go_at_call 163;refine (Za5 _ _ _).mono ?_;rintro e w' ⟨rfl,rfl⟩) | (go_at_call 162;refine (Zjb _ (cmpN o o') (cmpN k k') _ ?_ ?_).mono ?_;(exact ZcF _ _ _ _ _ rfl);(exact ZcF _ _ _ _ _ rfl);rintro e w' ⟨rfl,rfl⟩))
 go_wp2
 go_ret
 exact⟨rfl,B1.drew.alloc B1.size _⟩
theorem Zop (v:Value)(ls:List (Int × Int))(w:World)(hls:ls.length<=1048576)(hv:Zea w v ls w.heap.size):
  Calls Tryz.prog 129 #[v,.func (.func 130) #[] #[]] w fun e w'=>e=.returned (.bool (ascB ordH ls))/\Below w.heap.size w w':=by
 obtain⟨a,cap,rfl⟩:=Zea.shape hv;have HV:=hide hv;clear hv
 go_enter Tryz.func129,Tryz.ntmps129
 go_wp2
 go_loopw [5] (fun i wr=>∃ k:Nat,1<=k/\(k<=ls.length\/k=1)/\i=.int .i64 k/\(∀ j,j<k->ZbP ordH ls j=true)/\Below w.heap.size w wr) (fun i _=>ls.length+1-(intOf i).toNat)
 case atStart=>exact ⟨1,by omega,by omega,rfl,fun j hj=>by (obtain rfl:j=0:=by omega);rfl,Below.refl _ _⟩
 case round=>
  obtain⟨k,hk1,hk,rfl,hno,hb⟩:=hrel;have HNO:=hide hno;clear hno;by_cases hlt:k<ls.length
  ·obtain ⟨l,hl⟩:∃ l,ls[k]? = some l:=⟨ls[k],List.getElem?_eq_getElem hlt⟩
   obtain⟨j,hj⟩:∃ j,k=j+1:=⟨k-1,by omega⟩
   obtain⟨p,hp⟩:∃ p,ls[j]? = some p:=⟨ls[j],List.getElem?_eq_getElem (by omega)⟩
   obtain⟨b,off,cap',hve,hbb,c0,c1⟩:=Zea.cells HV.out k l hl;cases hve
   obtain⟨b',off',cap2,hve2,hbb2,d0,d1⟩:=Zea.cells HV.out j p hp;cases hve2
   rw [<-hb.cell (p:=⟨b,off+k*2,none⟩) hbb] at c0;rw [<-hb.cell (p:=⟨b,off+k*2+1,none⟩) hbb] at c1;rw [<-hb.cell (p:=⟨b,off+j*2,none⟩) hbb] at d0;rw [<-hb.cell (p:=⟨b,off+j*2+1,none⟩) hbb] at d1;have hat:ZbP ordH ls k=decide (ordH p l<0):=by rw [hj];exact ZbV hp (by rw [<-hj];exact hl)
   have hzr:=hb.size;have hbr:b<wr.heap.size:=by omega
   have hki:(0:Int)<=(k:Int):=by omega
   have hkj:(k:Int)<(ls.length:Int):=by omega
   have hj1:(k:Int)-1=(j:Int):=by omega
   have hj2:(0:Int)<=(j:Int):=by omega
   have hj3:(j:Int)<(ls.length:Int):=by omega
   have hj5:IntKind.i64.wrap (j:Int)=(j:Int):=ZaC _ (by omega) (by omega)
   have HORD:=hide (ZoX p l);have HAT:=hide hat;have HJ:=hide hj;clear hl hp hat hj;obtain⟨x,hx⟩:∃ x,x=ordH p l:=⟨_,rfl⟩;rw [<-hx] at HORD HAT;clear hx;unfold heV at HORD;by_cases hx0:x<0
   ·have hx1:¬(0:Int)<=x:=by omega
    rw [decide_eq_true hx0] at HAT
    go_wp2
    go_region_held3 (fun W=>W.cell? ⟨b,off+k*2,none⟩=some (.int .i64 l.1)/\W.cell? ⟨b,off+k*2+1,none⟩=some (.int .i64 l.2)/\W.cell? ⟨b,off+j*2,none⟩=some (.int .i64 p.1)/\W.cell? ⟨b,off+j*2+1,none⟩=some (.int .i64 p.2)) (first | go_keep | (refine ⟨?_,?_,?_,?_⟩ <;> (rw [hbc.cell (by assumption)];assumption))) (first | (go_at_call 130;refine (HORD.out _).mono ?_;rintro e w2 ⟨rfl,hbc⟩))
    go_wp2
    exact⟨⟨k+1,by omega,by omega,by go_num,ZaE HNO.out HAT.out,hb.drew.trans (hbc.mono hb.size)⟩,by simp [intOf];omega⟩
   ·have hx1:(0:Int)<=x:=by omega
    rw [decide_eq_false hx0] at HAT;have hf:ascB ordH ls=false:=ZaH hlt HAT.out;have HF:=hide hf;clear hf
    go_wp2
    go_region_held3 (fun W=>W.cell? ⟨b,off+k*2,none⟩=some (.int .i64 l.1)/\W.cell? ⟨b,off+k*2+1,none⟩=some (.int .i64 l.2)/\W.cell? ⟨b,off+j*2,none⟩=some (.int .i64 p.1)/\W.cell? ⟨b,off+j*2+1,none⟩=some (.int .i64 p.2)) (first | go_keep | (refine ⟨?_,?_,?_,?_⟩ <;> (rw [hbc.cell (by assumption)];assumption))) (first | (go_at_call 130;refine (HORD.out _).mono ?_;rintro e w2 ⟨rfl,hbc⟩))
    go_wp2
    go_ret
    exact⟨Zag HF.out,hb.drew.trans (hbc.mono hb.size)⟩
  ·have hall:ascB ordH ls=true:=Zbl fun i hi=>HNO.out i (by omega)
   have HA:=hide hall;clear hall
   go_wp2
   go_ret
   exact⟨Zag HA.out,hb⟩
theorem ZhR (v:Value)(h:List Int)(w:World)(hn:h.length<=1048576)(hv:ZaG w v h w.heap.size):
  Calls Tryz.prog 128 #[v] w fun e w'=>∃ u,e=.returned u/\w'.ownsRow w.heap.size 193 2 u (Za7 h).length (flat heE (Za7 h))/\Below w.heap.size w w':=by
 obtain⟨a,cap,rfl⟩:=hv.shape;have HV:=hide hv;have hpl:=ZdM h;have HPL:=hide hpl;clear hv hpl
 go_enter Tryz.func128,Tryz.ntmps128
 go_wp2
 go_loopw [4,3] (fun i o wr=>∃ (k:Nat) (u:Value),2*k<=h.length/\i=.int .i64 (2*(k:Int)+1)/\o=u/\wr.ownsRow w.heap.size 193 2 u ((Za7 h).take k).length (flat heE ((Za7 h).take k))/\Below w.heap.size w wr) (fun i _ _=>h.length+2-(intOf i).toNat)
 case atStart=>exact ⟨0,_,by omega,by simp,rfl,World.ownsRow_nil _ _ _ _,Below.refl _ _⟩
 case round=>
  obtain⟨k,u,hk,rfl,rfl,hown,hb⟩:=hrel;have hsz:=hb.size;obtain⟨ua,uc,hue⟩:=Zac hown;have htl:((Za7 h).take k).length=k:=by rw [List.length_take,HPL.out];omega
  by_cases hlt:2*k+1<h.length
  ·have hj0:(2*(k:Int)+1)<(h.length:Int):=by omega
   obtain⟨x,hx⟩:∃ x,h[2*k]? = some x:=⟨h[2*k],List.getElem?_eq_getElem (by omega)⟩
   obtain⟨y,hy⟩:∃ y,h[2*k+1]? = some y:=⟨h[2*k+1],List.getElem?_eq_getElem hlt⟩;obtain⟨b,off,cap',hve,hbb,c0⟩:=HV.out.cell (2*k) x hx;cases hve
   obtain⟨b',off',cap2,hve2,hbb2,d0⟩:=HV.out.cell (2*k+1) y hy;cases hve2
   rw [<-hb.cell (p:=⟨b,off+2*k,none⟩) hbb] at c0;rw [<-hb.cell (p:=⟨b,off+(2*k+1),none⟩) hbb] at d0;have HST:=hide (Zl6 h k x y hx hy);have hbr:b<wr.heap.size:=by omega
   have e1:(2*(k:Int)+1)-1=((2*k:Nat):Int):=by omega
   have e2:(2*(k:Int)+1)=((2*k+1:Nat):Int):=by omega
   have hw1:IntKind.i64.wrap (2*(k:Int)+1-1)=2*(k:Int)+1-1:=ZaC _ (by omega) (by omega)
   subst hue;clear hx hy;have HOW:=hide hown;have HVV:=hide HV;clear hown HV;have q1:(0:Int)<=2*(k:Int):=by omega
   have q2:2*(k:Int)<(h.length:Int):=by omega
   have q3:(0:Int)<=2*(k:Int)+1:=by omega
   have q4:(2*(k:Int)).toNat=2*k:=by omega
   have q5:(2*(k:Int)+1).toNat=2*k+1:=by omega
   have q6:2*(k:Int)+1-1=2*(k:Int):=by omega
   rw [q6] at hw1;rw [htl] at HOW |-;clear e1 e2;have HNE:some b≠(Value.slice ua k uc).ownBlock:=fun e=>by have:=(HOW.out.lt b e.symm).1;omega
   go_wp2
   go_region_held3 (fun W=>W.cell? ⟨b,off+2*k,none⟩=some (.int .i64 x)/\W.cell? ⟨b,off+(2*k+1),none⟩=some (.int .i64 y)) (first | go_keep | exact ⟨hgrow.cell ((((Below.refl wr.heap.size wr).alloc (Nat.le_refl _) _).drew.cell hbr).trans c0) HNE,hgrow.cell ((((Below.refl wr.heap.size wr).alloc (Nat.le_refl _) _).drew.cell hbr).trans d0) HNE⟩) (first | (refine ZeW Znf (by omega) (by omega) rfl _ _ 190 rfl w.heap.size 193 Tryz.underlying190 (.agg #[.int .i64 0,.int .i64 0]) rfl Tryz.infoEnd (.slice ua k uc) ((Za7 h).take k) (x,y) (ZpE _) rfl ?_ ⟨wr.heap.size,0,none⟩ 1 rfl ?_ ?_ ?_ ?_;(rw [htl];exact (HOW.out.alloc _).drew);(exact Zaz (cs:=heE (x,y)));(omega);(simp;omega);intro v' w1 hown' hgrow))
   have hgs:=hgrow.size;simp at hgs
   have BF:Below w.heap.size w w1:=(hb.alloc hsz _).drew.grown hgrow (by simp;omega) (fun k hk=>(HOW.out.lt k hk).1)
   have HO:=hide hown';clear hown' hgrow
   go_wp2
   go_roundw
   case rel=>exact ⟨k+1,v',by omega,by go_num,rfl,by rw [HST.out];exact HO.out,BF⟩
   case measure=>simp [intOf];omega
  ·have hj0:¬(2*(k:Int)+1)<(h.length:Int):=by omega
   have KN:=hide (show (Za7 h).take k=Za7 h by rw [List.take_of_length_le];rw [HPL.out];omega)
   subst hue;have OW:=hide hown;clear hown
   go_wp2
   go_ret
   have h1:=OW.out;rw [KN.out] at h1;exact⟨_,by rw [<-KN.out,htl];rfl,h1,hb⟩
theorem Zj0 (v1 v2 v3 v4:Value)(x:SelfD)(ps:List RP)(w:World)(hl:x.net.ls.length<=1048576)(hh:x.heard.length<=1048576)(hv:SelfIn w v1 v2 v3 v4 x ps w.heap.size):
  Calls Tryz.prog 91 #[Zfp x v1 v2 v3 v4] w fun e w'=>e=.returned (.bool (Zc8 x.net.ls x.id x.heard))/\Below w.heap.size w w':=by
 obtain⟨a1,c1,rfl⟩:=hv.links.shape;obtain⟨a2,c2,rfl⟩:=hv.things.shape;obtain⟨a3,c3,rfl⟩:=hv.heard.shape;obtain⟨a4,c4,rfl⟩:=hv.store.shape;have HX:=hide hv;have HPL:=hide (ZdM x.heard);clear hv;obtain⟨H,hH⟩:∃ H,H=Zc8 x.net.ls x.id x.heard:=⟨_,rfl⟩;rw [<-hH];have HH:=hide hH;clear hH
 go_enter Tryz.func91,Tryz.ntmps91
 have BA:Below w.heap.size w (w.alloc (.cells #[.int .i64 x.id,.int .i64 x.boot,.int .i64 x.net.n,.slice a1 x.net.ls.length c1,.slice a2 x.net.ts.length c2,.slice a3 x.heard.length c3,.slice a4 ps.length c4] 41)):=(Below.refl _ _).alloc (Nat.le_refl _) _;have HE:=hide (ZhR (.slice a3 x.heard.length c3) x.heard _ hh (HX.out.heard.then BA))
 go_wp2_with fail
 refine HE.out.mono ?_
 rintro e w1 ⟨u,rfl,ho,b1⟩;have g1:w1.heap[w.heap.size]? = some (.cells #[.int .i64 x.id,.int .i64 x.boot,.int .i64 x.net.n,.slice a1 x.net.ls.length c1,.slice a2 x.net.ts.length c2,.slice a3 x.heard.length c3,.slice a4 ps.length c4] 41):=by rw [b1.block _ (by simp)];exact heap_alloc_new w _
 have B1:Below w.heap.size w w1:=BA.trans (b1.mono BA.size);obtain⟨ua,uc,rfl⟩:=Zac ho;obtain⟨L,hL⟩:∃ L,L=Za7 x.heard:=⟨_,rfl⟩;rw [<-hL] at ho |-;have EA:=hide (show Zea w1 (.slice ua L.length uc) L w1.heap.size from ZaU ho)
 have hLl:L.length<=1048576:=by rw [hL,HPL.out];omega
 have HL:=hide hL;have G1:=hide g1;clear hL ho b1 BA HE g1
 go_wp2
 go_loopw [11] (fun i wr=>∃ k:Nat,k<=L.length/\i=.int .i64 k/\Hid (∀ j,j<k->okAt (hitP x.net.ls x.id) L j=true)/\Below w1.heap.size w1 wr) (fun i _=>L.length+1-(intOf i).toNat)
 case atStart=>exact ⟨0,by omega,rfl,hide (by omega),Below.refl _ _⟩
 case round=>
  obtain⟨k,hk,rfl,HNO,hb⟩:=hrel;have gr:=(hb.block _ (Zab G1.out)).trans G1.out;have B2:Below w.heap.size w wr:=B1.trans (hb.mono B1.size);have t0:=Zaa gr 0;have t2:=Zaa gr 2;have t3:=Zaa gr 3;have t4:=Zaa gr 4;have t5:=Zaa gr 5;simp at t0 t2 t3 t4 t5
  have hgl:=Zab gr;by_cases hlt:k<L.length
  ·obtain ⟨p,hp⟩:∃ p,L[k]? = some p:=⟨L[k],List.getElem?_eq_getElem hlt⟩
   obtain⟨b,off,cap',hve,hbb,c0,c1'⟩:=Zea.cells EA.out k p hp;cases hve
   rw [<-hb.cell (p:=⟨b,off+k*2,none⟩) hbb] at c0;rw [<-hb.cell (p:=⟨b,off+k*2+1,none⟩) hbb] at c1';have hki:(0:Int)<=(k:Int):=by omega
   have hkj:(k:Int)<(L.length:Int):=by omega
   have BC:Below wr.heap.size wr (wr.alloc (.cells #[.int .i64 p.1,.int .i64 p.2] 193)):=(Below.refl _ _).alloc (Nat.le_refl _) _;have HC:=hide (ZiV (.int .i64 x.net.n) (.slice a1 x.net.ls.length c1) (.slice a2 x.net.ts.length c2) x.net.ls x.id p.1 p.2 _ hl (ZaL.then (ZaL.then HX.out.links B2) BC));obtain⟨C,hC⟩:∃ C,C=ZbS x.net.ls x.id p.1 p.2:=⟨_,rfl⟩;rw [<-hC] at HC;have HAT:=hide (show okAt (hitP x.net.ls x.id) L k = !(C==0) by rw [Zb2 hp,hC];rfl)
   clear hC hp gr
   go_wp2_with fail
   refine HC.out.mono ?_
   rintro e w3 ⟨rfl,b3⟩;have B3:Below w1.heap.size w1 w3:=(hb.trans (BC.mono hb.size)).trans (b3.mono (by have:=BC.size;have:=hb.size;omega))
   have B4:Below w.heap.size w w3:=B1.trans (B3.mono B1.size);clear b3 HC c0 c1' t0 t2 t3 t4 t5;by_cases hc0:C=0
   ·have HF:=hide (show H=false by
     rw [HH.out];unfold Zc8;rw [<-HL.out];have:L.all (hitP x.net.ls x.id)=false:=by
      rw [List.all_eq_false];refine⟨L[k],List.getElem_mem hlt,?_⟩
      have h:=HAT.out;rw [Zb2 (List.getElem?_eq_getElem hlt),hc0] at h;rw [h];simp
     rw [this,Bool.false_and])
    subst hc0
    go_wp2
    go_ret
    exact⟨Zag HF.out,B4⟩
   ·have HT:=hide (show okAt (hitP x.net.ls x.id) L k=true by rw [HAT.out];simpa using hc0)
    go_wp2
    go_roundw
    case rel=>exact ⟨k+1,by omega,by go_num,hide (ZaE HNO.out HT.out),B3⟩
    case measure=>simp [intOf];omega
  ·have hkj:¬(k:Int)<(L.length:Int):=by omega
   have HALL:=hide (show L.all (hitP x.net.ls x.id)=true by
    rw [List.all_eq_true];intro q hq;obtain⟨i,hi,e⟩:=List.mem_iff_getElem.1 hq;have h:=HNO.out i (by omega)
    rw [Zb2 (List.getElem?_eq_getElem hi),e] at h;exact h)
   have HAS:=hide (Zop (.slice ua L.length uc) L _ hLl (ZaL.then EA.out hb));have HFIN:=hide (show H=(decide (x.heard.length%2=0)&&ascB ordH L) by
    rw [HH.out];unfold Zc8;rw [<-HL.out,HALL.out,Bool.true_and])
   clear HNO gr;by_cases hpar:x.heard.length%2=0
   ·have hp1:(x.heard.length:Int)%2=0:=by omega
    rw [decide_eq_true hpar,Bool.true_and] at HFIN;clear hpar
    go_wp2_with fail
    refine HAS.out.mono ?_
    rintro e w3 ⟨rfl,b3⟩;have B4:Below w.heap.size w w3:=B2.trans (b3.mono B2.size);clear b3 t0 t2 t3 t4 t5
    go_wp2
    go_ret
    exact⟨Zag HFIN.out,B4⟩
   ·have hp1:¬(x.heard.length:Int)%2=0:=by omega
    rw [decide_eq_false hpar,Bool.false_and] at HFIN;clear hpar
    go_wp2
    go_ret
    exact⟨Zag HFIN.out,B2⟩
def Zbv (x y:RecD):Bool:=x.area==y.area&&x.kind==y.kind&&x.owner==y.owner&&x.key==y.key
theorem Zjo (v1 v2:Value)(x y:RecD)(w:World):Calls Tryz.prog 189 #[.agg (recC x v1),.agg (recC y v2)] w fun e w'=>e=.returned (.bool (Zbv x y))/\Below w.heap.size w w':=by
 obtain⟨a0,a1,a2,a3,a4,ns,a6,a7⟩:=x;obtain⟨b0,b1,b2,b3,b4,ms,b6,b7⟩:=y;unfold recC;simp only []
 go_enter Tryz.func189,Tryz.ntmps189
 go_wp2
 all_goals go_ret
 all_goals refine ⟨Zag ?_,Zan _ _⟩
 all_goals (simp only [Zbv];grind)
def keyC (x:RecD):Array Value:=#[.int .i64 x.area,.int .i64 x.kind,.int .i64 x.owner,.int .i64 x.key]
theorem Znm (v1:Value)(x:RecD)(w:World):Calls Tryz.prog 248 #[.agg (recC x v1)] w fun e w'=>e=.returned (.agg (keyC x))/\Below w.heap.size w w':=by
 obtain⟨a0,a1,a2,a3,a4,ns,a6,a7⟩:=x;unfold recC keyC;simp only []
 go_enter Tryz.func248,Tryz.ntmps248
 go_wp2
 go_returns
 exact⟨rfl,Zan _ _⟩
theorem Znn (a0 a1 a2 a3 a4:Int)(v:Value)(a6:Int)(a7:Bool)(w:World):Calls Tryz.prog 248 #[.agg #[.int .i64 a0,.int .i64 a1,.int .i64 a2,.int .i64 a3,.int .i64 a4,v,.int .i64 a6,.bool a7]] w fun e w'=>e=.returned (.agg #[.int .i64 a0,.int .i64 a1,.int .i64 a2,.int .i64 a3])/\Below w.heap.size w w':=
 Znm v ⟨a0,a1,a2,a3,a4,[],a6,a7⟩ w
def Ze6 (x y:RecD):Bool:=decide (x.area<y.area)||(x.area==y.area&&(decide (x.kind<y.kind)||(x.kind==y.kind&&(decide (x.owner<y.owner)||(x.owner==y.owner&&decide (x.key<y.key))))))
theorem Zkn (v1 v2:Value)(x y:RecD)(w:World):Calls Tryz.prog 81 #[.agg (recC x v1),.agg (recC y v2)] w fun e w'=>e=.returned (.bool (Ze6 x y))/\Below w.heap.size w w':=by
 obtain⟨a0,a1,a2,a3,a4,ns,a6,a7⟩:=x;obtain⟨b0,b1,b2,b3,b4,ms,b6,b7⟩:=y;unfold recC;simp only []
 go_enter Tryz.func81,Tryz.ntmps81
 go_wp2
 all_goals go_ret
 all_goals refine ⟨Zag ?_,Zan _ _⟩
 all_goals (simp only [Ze6];grind)
end Go.Proofs.YtnndlmodjkplnaaGreatDoor
namespace Go.Proofs.YtnndlmodjkplnaaGreatDoor
open Go.RowKit

theorem putS:(∀ (a:Act) (v:Value),a.put none v=a)/\(∀ (a:Act) (t:Nat) (v:Value),a.put (some t) v = { a with tmps:=a.tmps.setIfInBounds t v })/\(∀ (l:List Value) (i:Nat) (v:Value),l.toArray.setIfInBounds i v=(l.set i v).toArray)/\(∀ (x v:Value) (l:List Value),(x::l).set 0 v=v::l)/\(∀ (x v:Value) (l:List Value) (n:Nat),(x::l).set (n+1) v=x::l.set n v):=
 ⟨fun _ _=>rfl,fun _ _ _=>rfl,fun _ _ _=>by simp,fun _ _ _=>rfl,fun _ _ _ _=>rfl⟩

theorem getS:(∀ (l:List Oper) (i:Nat),l.toArray[i]? = l[i]?)/\(∀ (x:Oper) (l:List Oper),(x::l)[0]? = some x)/\(∀ (x:Oper) (l:List Oper) (n:Nat),(x::l)[n+1]? = l[n]?):=
 ⟨fun _ _=>by simp,fun _ _=>rfl,fun _ _ _=>rfl⟩

def Zen (ops:Array Oper)(listed:Array Bool)(i:Nat):Bool:=Region.noSelect ops&&Region.free .any ops listed i&&(Region.ready .any ops listed).contains i

theorem ZeL {ops:Array Oper}{listed:Array Bool}{i:Nat}(h:Zen ops listed i=true):Region.noSelect ops=true/\Region.free .any ops listed i=true/\(Region.ready .any ops listed).contains i=true:=by
 unfold Zen at h;simp only [Bool.and_eq_true] at h
 exact⟨h.1.1,h.1.2,h.2⟩

section
variable {P:Program} {ops:Array Oper} {Q:Exit->Act->World->Prop} {S:World->Prop} {fuel:Nat} {listed:Array Bool} {a:Act} {w:World}

/-- the beginning: the region's operations behind a letter -/
theorem Zam {id:Nat}(hm:P.follows .mixedOrders=true)(n:Nat)(hn:ops.size=n)(hS:S w.drew)(h:∀ ops',Hid (ops'=ops)->S w.drew->wpAnyH P .any ops' Q S n (Array.replicate n false) a w.drew):(Code.region id ops true).wp P Q a w:=by
 refine wp_region_held_drew hm hS (fun hs=>?_)
 rw [hn];exact h ops rfl hs

/-- an operation that isn't wanted -/
theorem Zn4 (i:Nat)(d:Tmp)(hi:(ops[i]?).map Oper.dst=some (some d))(ht:Zen ops listed i=true)(hw:(ops[i]?).map (fun o=>Region.wanted o (yielded ops a.tmps))=some false)
  (hQ:∀ c a w,Q (.panic c) (a.put (some d) undef) w->Q (.panic c) a w) (hS:S w) (h:wpAnyH P .any ops Q S fuel (listed.setIfInBounds i true) (a.put (some d) undef) w):wpAnyH P .any ops Q S (fuel+1) listed a w:=by
 obtain⟨h1,h2,h3⟩:=ZeL ht;cases ho:ops[i]? with
 | none=>rw [ho] at hi;cases hi
 | some oi=>
  rw [ho] at hi hw;simp only [Option.map_some,Option.some.injEq] at hi hw
  refine wpAnyH_take ho h1 h2 h3 (v:=undef) ?_ (Or.inr ⟨hw,rfl⟩) hS ?_
  ·rw [hi];exact hQ
  ·rw [hi];exact h

/-- an operation that yields v in every world that meets S -/
theorem ZaS (i:Nat){oi:Oper}{v:Value}(hi:ops[i]? = some oi)(ht:Zen ops listed i=true)(hw:Region.wanted oi (yielded ops a.tmps)=true)(hy:∀ w,S w->(execOp a.eval oi).run P w=.ok (.value v) w)
  (hQ:∀ c a w,Q (.panic c) (a.put oi.dst v) w->Q (.panic c) a w) (hS:S w) (h:wpAnyH P .any ops Q S fuel (listed.setIfInBounds i true) (a.put oi.dst v) w):wpAnyH P .any ops Q S (fuel+1) listed a w:=by
 obtain⟨h1,h2,h3⟩:=ZeL ht;exact wpAnyH_take hi h1 h2 h3 hQ (Or.inl ⟨hw,hy⟩) hS h

/-- a call that alone may come up -/
theorem Zao (i:Nat){oi:Oper}(hi:ops[i]? = some oi)(hr:Region.ready .any ops listed=[i])(hw:Region.wanted oi (yielded ops a.tmps)=true)
  (h:∀ K':Act->World->Prop,Shut (∀ a w,S w->(S w->wpAnyH P .any ops Q S fuel (listed.setIfInBounds i true) a w)->K' a w)->Oper.wp P oi a w K' Q):wpAnyH P .any ops Q S (fuel+1) listed a w:=by
 refine wpAnyH_ready (rs:=[i]) hr (by simp) ?_
 refine AllReadyH.cons hi (fun K hK=>?_) AllReadyH.nil
 rw [if_pos hw];exact h K hK
theorem Zad (i:Nat)(d:Tmp) (hb:((ops[i]?).map Oper.dst==some (some d)&&(Zen ops listed i&&(ops[i]?).map (fun o=>Region.wanted o (yielded ops a.tmps))==some false))=true)
  (hQ:∀ c a w,Q (.panic c) (a.put (some d) undef) w->Q (.panic c) a w) (hS:S w) (h:wpAnyH P .any ops Q S fuel (listed.setIfInBounds i true) (a.put (some d) undef) w):wpAnyH P .any ops Q S (fuel+1) listed a w:=by
 simp only [Bool.and_eq_true,beq_iff_eq] at hb
 exact Zn4 i d hb.1 hb.2.1 hb.2.2 hQ hS h

theorem ZaW (i:Nat)(oi:Oper)(v:Value)(hi:ops[i]? = some oi) (hb:(Zen ops listed i&&(ops[i]?).map (fun o=>Region.wanted o (yielded ops a.tmps))==some true)=true) (hy:∀ w,S w->(execOp a.eval oi).run P w=.ok (.value v) w)
  (hQ:∀ c a w,Q (.panic c) (a.put oi.dst v) w->Q (.panic c) a w) (hS:S w) (h:wpAnyH P .any ops Q S fuel (listed.setIfInBounds i true) (a.put oi.dst v) w):wpAnyH P .any ops Q S (fuel+1) listed a w:=by
 simp only [Bool.and_eq_true,beq_iff_eq] at hb
 have h2:=hb.2;rw [hi] at h2;simp only [Option.map_some,Option.some.injEq] at h2
 exact ZaS i hi hb.1 h2 hy hQ hS h

theorem Zar (n:Nat)(oi:Oper)(v:Value)(hi:ops[n-(fuel+1)]? = some oi) (hb:(Zen ops listed (n-(fuel+1))&&(ops[n-(fuel+1)]?).map (fun o=>Region.wanted o (yielded ops a.tmps))==some true)=true) (hy:∀ w,S w->(execOp a.eval oi).run P w=.ok (.value v) w)
  (hQ:∀ c a w,Q (.panic c) (a.put oi.dst v) w->Q (.panic c) a w) (hS:S w) (h:wpAnyH P .any ops Q S fuel (listed.setIfInBounds (n-(fuel+1)) true) (a.put oi.dst v) w):wpAnyH P .any ops Q S (fuel+1) listed a w:=
 ZaW (n-(fuel+1)) oi v hi hb hy hQ hS h

end
end Go.Proofs.YtnndlmodjkplnaaGreatDoor
namespace Go.Proofs.YtnndlmodjkplnaaGreatDoor
open Go.RowKit
set_option linter.unusedSimpArgs false
set_option linter.unusedVariables false
set_option maxRecDepth 100000
set_option maxHeartbeats 8000000
def Zd5 (W:World)(p:Nat)(a b c d:Int):Prop:=(W.cell? ⟨p,0,none⟩=some (.int .i64 a)/\W.cell? ⟨p,1,none⟩=some (.int .i64 b)/\W.cell? ⟨p,2,none⟩=some (.int .i64 c)/\W.cell? ⟨p,3,none⟩=some (.int .i64 d))/\W.frozen? ⟨p,0,none⟩=false/\W.frozen? ⟨p,1,none⟩=false/\W.frozen? ⟨p,2,none⟩=false/\W.frozen? ⟨p,3,none⟩=false
theorem Zd5.lt {W:World}{p:Nat}{a b c d:Int}(h:Zd5 W p a b c d):p<W.heap.size:=World.block_lt_of_cell? W _ h.1.1
theorem Zd5.below {W w2:World}{p:Nat}{a b c d:Int}(h:Zd5 W p a b c d)(hb:Below W.heap.size W w2):Zd5 w2 p a b c d:=by
 have hp:=h.lt;obtain⟨⟨h0,h1,h2,h3⟩,f0,f1,f2,f3⟩:=h;refine⟨⟨?_,?_,?_,?_⟩,?_,?_,?_,?_⟩
 ·rw [hb.cell (p:=⟨p,0,none⟩) hp];exact h0
 ·rw [hb.cell (p:=⟨p,1,none⟩) hp];exact h1
 ·rw [hb.cell (p:=⟨p,2,none⟩) hp];exact h2
 ·rw [hb.cell (p:=⟨p,3,none⟩) hp];exact h3
 ·rw [hb.frozen (p:=⟨p,0,none⟩) hp];exact f0
 ·rw [hb.frozen (p:=⟨p,1,none⟩) hp];exact f1
 ·rw [hb.frozen (p:=⟨p,2,none⟩) hp];exact f2
 ·rw [hb.frozen (p:=⟨p,3,none⟩) hp];exact f3
theorem Zd5.alloc {W:World}{p:Nat}{a b c d:Int}(h:Zd5 W p a b c d)(o:Obj):Zd5 (W.alloc o) p a b c d:=h.below ((Below.refl _ _).alloc (Nat.le_refl _) _)
theorem Zd5.same {W W':World}{p:Nat}{a b c d:Int}(h:Zd5 W p a b c d)(e:W.heap=W'.heap):Zd5 W' p a b c d:=by
 unfold Zd5 World.cell? World.frozen? at *;rw [<-e];exact h
end Go.Proofs.YtnndlmodjkplnaaGreatDoor
