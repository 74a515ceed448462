/-
  The law FnTables answers true at every argument, and each argument reads afterwards as it read before; no condition. (Here: from the walk to the given statement.)
-/
import Derived.Test.YtdhnddfnckgbjaaGreatZi28
import Derived.ShutString
namespace Go.Proofs.YtdhnddfnckgbjaaGreat
namespace fnTables
open Go.ChangeShapes Go.WideShapes Go.ChangeAt Go.RowKit
open Go.ChangeMaps (open_string shut_string)
set_option linter.unusedVariables false

theorem own:ownKnob Tryz.prog.godebug=none:=by kernel_rfl
theorem Zoh:laidOutB Tryz.prog=true:=by kernel_rfl

set_option maxRecDepth 100000 in
theorem lifted (os:Os)(started:os.Started)(H:Type)(enc:TypeId × Value->H):
  ReturnsInHanded {} Tryz.checked os 3 .any (Rows.fnTablesSpec.pre6 enc Tryz.prog Tryz.f3 Rows.fnTablesRow.domain false) (Rows.fnTablesSpec.post enc Tryz.prog Tryz.f3 false true false false):=by
 refine returnsInHanded_of_change (C:=Tryz.checked) own started (by kernel_rfl) Tryz.func3
  (ChangeSpec.witness6 (enc:=enc) (C:=Tryz.checked) false ⟨#[],#[.slice none 0 0],[]⟩ 8 (by kernel_rfl) (by kernel_rfl) (by kernel_rfl) (by kernel_rfl)) ?_
 intro W base args ds gs before hval0 hW hcnd _;have hval:∀ (j:Nat) t v,Tryz.f3.params[j]? = some t->args[j]? = some v->Value.okWide Tryz.prog W .any base t v:=hval0;have hW':=hW;obtain⟨p,q,hA0,hV,rfl,hfz,hnd⟩:=hW;have hA:DataW.TrodAll enc Tryz.prog W 0 (fun _=>true) true Tryz.f3.params.toList args.toList ds p:=hA0;rw [Tryz.params3] at hA hval;obtain⟨v0,vs0,d0,ds0,p0,q0,hargs,rfl,rfl,h0,r0⟩:=trodAll_cons hA;obtain⟨rfl,rfl,rfl⟩:=trodAll_nil r0;obtain rfl:args=#[v0]:=by cases args;simp_all
 obtain⟨rfl,rfl⟩:=trodVars_none hV;obtain⟨a0,len0,cap0,rfl⟩:=okWide_slice Tryz.underlying22 (hval 0 22 v0 rfl rfl);have k0:=h0;have lt0:∀ x∈p0,x.block<W.heap.size:=by obtain ⟨m,hm⟩:=k0;exact DataW.trod_lt m _ _ _ hm
 have w0:len0<=1048576->Code W a0 len0 W.heap.size:=fun hl20=>by
  obtain⟨fuel,hf⟩:=h0;refine⟨hl20,?_⟩;rcases open_ints Tryz.underlying22 Tryz.underlying5 (by kernel_rfl) hf with ⟨hcs,_⟩ | ⟨x,l,c,zs,hcs,_,hl,hm,hz,_,hcell,hwz⟩
  ·simp [Value.cells] at hcs;exact .inl hcs.2.1
  ·simp [Value.cells] at hcs;obtain⟨rfl,rfl,rfl⟩:=hcs;by_cases hl0:len0=0
   ·exact .inl hl0
   ·obtain ⟨b,off,spot⟩:=x;have hzl:zs.length=cap0:=by simpa using hz
    have hc0:=hcell 0 (by omega);have hspot:spot=none:=by simpa [Addr.add] using World.cell?_spot hc0
    subst hspot;have hb:b<W.heap.size:=by
     have:=World.block_lt_of_cell? W _ hc0;simpa [Addr.add] using this
    refine .inr ⟨b,off,rfl,hb,fun j hj=>?_⟩;have hjz:j<zs.length:=by omega
    have hcj:=hcell j hjz;have e1:(⟨b,off,none⟩:Addr).add j=⟨b,off+j,none⟩:=by
     simp only [Addr.add]
     split <;> simp_all
    have hgd:zs.getD j 0=zs[j]:=by simp [YAA hjz]
    have hwj:=bounds_u8 (hwz (zs.getD j 0) (by rw [hgd];exact YAr hjz));rw [e1] at hcj;exact⟨(zs.getD j 0).toNat,by omega,by rw [hcj];congr 2;omega⟩
 clear hA0 hval0;refine (fnTables_walk a0 len0 cap0 W w0).mono fun e W' ⟨he,bel⟩=>?_;subst he;exact⟨_,rfl,_,_,_,[],_,[],hW',trodAll_mk1 (shut_bool Tryz.underlying4 _),(trodAll_cons_mk (Below.trod Zoh (by kernel_rfl) (of_decide_eq_true (by kernel_rfl)) k0 bel lt0) trodAll_mk0),rfl,bel.frame _,fun h=>by cases h⟩

theorem over:Rows.fnTablesRow.holds Tryz.pinned (OpenSpec.ofChange Rows.fnTablesSpec):=
 OpenClaim.holds_of_wide 3 Tryz.f3 rfl rfl rfl rfl rfl rfl rfl ⟨rfl,rfl,rfl,rfl,rfl⟩ rfl rfl rfl rfl rfl (by kernel_rfl) Tryz.func3 (by kernel_rfl)
  (of_decide_eq_true (by kernel_rfl)) (by unfold Func.isWrapper;first | (rw [if_pos (by decide +kernel)];kernel_rfl) | (rw [if_neg (by decide +kernel)];exact⟨rfl,rfl⟩))
  (fun os started H enc _=>lifted os started H enc)
end fnTables

theorem fnTables_proved:Rows.FnTablesSaid:=fnTables.over
#print axioms fnTables_proved
end Go.Proofs.YtdhnddfnckgbjaaGreat
