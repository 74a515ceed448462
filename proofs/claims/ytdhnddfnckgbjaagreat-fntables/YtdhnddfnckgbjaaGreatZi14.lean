/-
  Parts.
-/
import Derived.Test.YtdhnddfnckgbjaaGreatZi12
namespace Go.Proofs.YtdhnddfnckgbjaaGreat
open Go.RowKit

theorem Zh2 {x y z:RecD}(h1:Zat x y=true)(h2:Zat y z=true):Zat x z=true:=by
 unfold Zat at *;simp only [Bool.or_eq_true,YAO,YAk,beq_iff_eq] at *;omega

theorem ZfE {x y:RecD}(h1:Zbc x y=true):Zat x y=false/\Zat y x=false:=by
 unfold Zat Zbc at *;simp only [Bool.or_eq_false_iff,Bool.and_eq_false_iff,decide_eq_false_iff_not,beq_eq_false_iff_ne,YAO,beq_iff_eq] at *;omega

def Asc (xs:List RecD):Prop:=xs.Pairwise (fun x y=>Zat x y=true)

theorem ZmK {xs:List RecD}(h:Asc xs):ascB ordR xs=true:=by
 unfold Asc at h;rw [YAf] at h;refine Zbr fun j hj=>?_;cases j with
 | zero=>rfl
 | succ k=>
  rw [Zc3 (YAA (by omega)) (YAA hj),Zj2];exact h k (k+1) (by omega) hj (by omega)

def putD (xs:List RecD)(r:RecD):List RecD:=xs.filter (fun x=>Zat x r)++[r]++xs.filter (fun x=>Zat r x)

theorem ZeF (ps:List RP)(r:RP):fsts (putL ps r)=putD (fsts ps) r.1:=by
 unfold putL putD fsts;simp [List.filter_map,Function.comp_def]

section
variable {xs:List RecD} {r:RecD} {i:Nat}

end
end Go.Proofs.YtdhnddfnckgbjaaGreat
