/-
  Parts.
-/
import Derived.Test.YtikloccefmofdaaGreatFi28
import Derived.Test.YtikloccefmofdaaGreatFi27
namespace Go.Proofs.YtikloccefmofdaaGreat
open Go.RowKit
set_option linter.unusedSimpArgs false
set_option linter.unusedVariables false
set_option maxRecDepth 100000
set_option maxHeartbeats 8000000
variable {lo z:Nat}{q:RtD}{u x:Value}{W:World}
structure BoxR (W:World) (z lo:Nat) (q:RtD) (u:Value):Prop where
 box:W.heap[z]? = some (.cells (rtC q u) 42)
 own:W.ownsRow lo 3 1 u q.hops.length (flat intE q.hops)
 len:q.hops.length<=6
theorem BoxR.below {W':World}(h:BoxR W z lo q u)(hb:Below W.heap.size W W'):BoxR W' z lo q u:=
 ⟨(hb.block _ (Zab h.box)).trans h.box,Zad h.own hb (YA _),h.len⟩
theorem set6 {j:Nat}{cs:Array Value}(h:W.heap[z]? = some (.cells cs 42)):(W.setCell ⟨z,j,none⟩ x).heap[z]? = some (.cells (cs.setIfInBounds j x) 42):=YAU W z j _ _ x h
theorem ZgR {j n:Nat}{cs:Array Value}{xs:List Value}(h:W.heap[z]? = some (.cells cs 42))(ho:W.ownsRow lo 3 1 u n xs):(W.setCell ⟨z,j,none⟩ x).ownsRow lo 3 1 u n xs:=
 Zal ho (fun k hk=>(Zaw W z j x).block k (ho.lt k hk).2 (fun e=>Zar ho h (by decide) (by rw [hk];exact e.symm)))
theorem BoxR.kind (h:BoxR W z lo q u)(k:Int):BoxR (W.setCell ⟨z,2,none⟩ (.int .i64 k)) z lo { q with kind:=k } u:=
 ⟨by have e:=set6 (j:=2) (x:=.int .i64 k) h.box;simp only [rtC,YAq,YAs,YAu] at e |-;exact e,ZgR h.box h.own,h.len⟩
theorem BoxR.far (h:BoxR W z lo q u)(k:Int):BoxR (W.setCell ⟨z,4,none⟩ (.int .i64 k)) z lo { q with far:=k } u:=
 ⟨by have e:=set6 (j:=4) (x:=.int .i64 k) h.box;simp only [rtC,YAq,YAs,YAu] at e |-;exact e,ZgR h.box h.own,h.len⟩
theorem BoxR.cost (h:BoxR W z lo q u)(k:Int):BoxR (W.setCell ⟨z,3,none⟩ (.int .i64 k)) z lo { q with cost:=k } u:=
 ⟨by have e:=set6 (j:=3) (x:=.int .i64 k) h.box;simp only [rtC,YAq,YAs,YAu] at e |-;exact e,ZgR h.box h.own,h.len⟩
theorem BoxR.hop {l:List Int}(h:BoxR W z lo q u)(hx:W.ownsRow lo 3 1 x l.length (flat intE l))(hl:l.length<=6):BoxR (W.setCell ⟨z,5,none⟩ x) z lo { q with hops:=l } x:=
 ⟨by have e:=set6 (j:=5) (x:=x) h.box;simp only [rtC,YAq,YAs,YAu] at e |-;exact e,ZgR h.box hx,hl⟩
theorem BoxR.wide {lo':Nat}(h:BoxR W z lo q u)(hl:lo'<=lo):BoxR W z lo' q u:=⟨h.box,Zaf h.own hl,h.len⟩
end Go.Proofs.YtikloccefmofdaaGreat
