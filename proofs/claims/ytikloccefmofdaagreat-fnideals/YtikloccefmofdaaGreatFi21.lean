/-
  Parts.
-/
import Derived.Test.YtikloccefmofdaaGreatFi19
namespace Go.Proofs.YtikloccefmofdaaGreat
open Go.RowKit
set_option linter.unusedSimpArgs false
set_option linter.unusedVariables false
set_option maxRecDepth 100000
set_option maxHeartbeats 8000000
variable {xs:List RecD}{x:RecD}
theorem ZnA (h:ZaW x=true)(hk:x.kind=1):x.key=0:=by
 unfold ZaW at h;simp only [YAJ] at h;have h2:=h.2;rw [if_pos hk] at h2;simp only [YAJ,beq_iff_eq] at h2;exact h2.1.1.1.2
theorem ZkD (h:Zax xs=true)(hx:x∈xs):ZaW x=true:=by
 unfold Zax at h;simp only [YAJ] at h;exact Zdv h.1.2 hx
theorem Zhm (h:Zax xs=true){area owner:Int}(hx:x∈xs):ZgB area owner x=Zap x (ZeL area owner):=by
 have hok:=ZkD h hx;unfold ZgB Zap ZeL;by_cases hk:x.kind=1
 ·have:=ZnA hok hk;simp [this]
 ·have hb:(x.kind==1)=false:=by simpa using hk
  simp [hb]
theorem Zku (h:Zax xs=true)(area owner:Int):plN xs area owner=xs.findIdx? (fun x=>Zap x (ZeL area owner)):=by
 unfold plN;cases e:xs.findIdx? (ZgB area owner) with
 | none=>
  rw [List.findIdx?_eq_none_iff] at e;rw [Eq.comm,List.findIdx?_eq_none_iff];intro x hx;rw [<-Zhm h hx];exact e x hx
 | some k=>
  obtain⟨h1,h2,h3⟩:=List.findIdx?_eq_some_iff_getElem.1 e;rw [Eq.comm,List.findIdx?_eq_some_iff_getElem];refine⟨h1,?_,fun j hj=>?_⟩
  ·rw [<-Zhm h (YAt _)];exact h2
  ·rw [<-Zhm h (YAt _)];exact h3 j hj
theorem Znr (h:Zax xs=true)(area owner:Int):Zdt xs area owner=(plN xs area owner).isSome:=by
 unfold Zdt ZdY atZ;rw [<-Zku h];cases plN xs area owner with
 | none=>rfl
 | some k=>
  show (!decide ((k:Int)<0))=true;simp
theorem ZeG (h:Zax xs=true)(area owner to:Int):ZdZ xs area owner to=((Zcd xs area owner).near.find? (fun n=>n.to==to)).map (·.c):=by
 unfold ZdZ Zcd ZeZ atZ;rw [<-Zku h];cases e:plN xs area owner with
 | none=>rfl
 | some k=>
  obtain⟨x,hx,_,_⟩:=Zph e;show (match xs[k]? with
   | some x=>(x.near.find? (fun (n:Nr)=>n.to==to)).map (fun (n:Nr)=>n.c)
   | none=>none)=_
  rw [hx];show _=(((if ((k:Int)<0) then Za9 else xs.getD ((k:Int)).toNat Za9).near.find? (fun (n:Nr)=>n.to==to)).map (fun (n:Nr)=>n.c));rw [if_neg (by omega)];simp [hx]
def AscN (ns:List Nr):Prop:=∀ (i j:Nat) (a b:Nr),i<j->ns[i]? = some a->ns[j]? = some b->a.to<b.to
theorem Znq {o:Int}{ns:List Nr}(h:Zbn o ns=true):AscN ns:=by
 unfold Zbn at h;simp only [YAJ] at h;have hasc:=h.2;unfold ascB at hasc;rw [List.all_eq_true] at hasc;have step:∀ (j:Nat) (a b:Nr),ns[j]? = some a->ns[j+1]? = some b->a.to<b.to:=by
  intro j a b ha hb;have hj:j+1<ns.length:=(YAD.1 hb).1;have:=hasc (j+1) (by simpa using hj);unfold Zce at this;simp only [ha,hb] at this;unfold ordN at this;simp at this;omega
 intro i j a b hij
 induction j generalizing b with
 | zero=>omega
 | succ j ih=>
  intro ha hb;have hj:j+1<ns.length:=(YAD.1 hb).1;obtain⟨m,hm⟩:∃ m,ns[j]? = some m:=⟨ns[j]'(by omega),YAA (by omega)⟩;have s:=step j m b hm hb;by_cases e:i=j
  ·subst e;rw [ha] at hm;cases hm;exact s
  ·have:=ih m (by omega) ha hm;omega
theorem Znn {ns:List Nr}{bk:Int->Int}{v:Nat}(hv:1<=v/\v<=6)(hasc:AscN ns):∀ k,k<=ns.length->Zd9 ns bk v k=(if 0<bk (v:Int) then (((ns.take k).find? (fun n=>n.to==(v:Int))).map (·.c)).getD 0 else 0):=by
 intro k
 induction k with
 | zero=>intro _;simp [Zd9]
 | succ k ih=>
  intro hk;have hlt:k<ns.length:=by omega
  rw [Zex bk v (YAA hlt),ih (by omega),YAI hlt,List.find?_append];by_cases e:ns[k].to=(v:Int)
  ·by_cases hb:0<bk (v:Int)
   ·rw [if_pos ⟨e,by rw [e];exact Zd6.2 (by omega),by rw [e];exact hb⟩,if_pos hb];have hno:(ns.take k).find? (fun n=>n.to==(v:Int))=none:=by
     rw [List.find?_eq_none];intro x hx;obtain⟨i,hi,e2⟩:=List.mem_iff_getElem.1 hx;rw [YAV] at hi;rw [List.getElem_take] at e2;have:=hasc i k x ns[k] (by omega) (by rw [YAA (by omega),e2]) (YAA hlt);simp;omega
    rw [hno];simp [e]
   ·rw [if_neg (fun hc=>by rw [e] at hc;exact hb hc.2.2),if_neg hb,if_neg hb]
  ·rw [if_neg (fun hc=>e hc.1)];have e2:(ns[k].to==(v:Int))=false:=by simpa using e
   simp [e2]
theorem Zdk (h:Zax xs=true)(area:Int){u v:Nat}(hu:1<=u/\u<=6)(hv:1<=v/\v<=6):Ze4 xs area (u:Int) (v:Int)=Zb3 xs area u v:=by
 unfold Ze4 Zb3;rw [if_pos ⟨hu,hv⟩,ZeG h,ZeG h];unfold Znm;have hasc:AscN (Zcd xs area (u:Int)).near:=by
  unfold Zcd;rcases Zj6 (xs:=xs) (r:=ZeL area (u:Int)) with hm | he
  ·rcases Zhs (ZkD h hm) with e | ⟨_,e⟩
   ·rw [e];intro i j a b _ ha _;simp at ha
   ·exact Znq e
  ·rw [he];intro i j a b _ ha _;simp [Za9] at ha
 rw [Znn hv hasc _ (YA _),YAh];have hback:∀ c,((Zcd xs area (v:Int)).near.find? (fun n=>n.to==(u:Int))).map (·.c)=some c->0<c:=by
  intro c hc;obtain⟨n,hn,rfl⟩:=Option.map_eq_some_iff.1 hc;have:=ZfL (area:=area) (node:=(v:Int)) h n (List.mem_of_find?_eq_some hn);omega
 have htell:Zc8 xs area (v:Int) (u:Int)=(((Zcd xs area (v:Int)).near.find? (fun n=>n.to==(u:Int))).map (·.c)).getD 0:=by
  unfold Zc8 Zgy;cases (Zcd xs area (v:Int)).near.find? (fun n=>n.to==(u:Int)) <;> rfl
 cases e:((Zcd xs area (v:Int)).near.find? (fun n=>n.to==(u:Int))).map (·.c) with
 | none=>
  rw [if_neg (by rw [htell,e];simp)]
 | some c=>
  rw [if_pos (by rw [htell,e];exact hback c e)];cases ((Zcd xs area (u:Int)).near.find? (fun n=>n.to==(v:Int))) <;> rfl
end Go.Proofs.YtikloccefmofdaaGreat
