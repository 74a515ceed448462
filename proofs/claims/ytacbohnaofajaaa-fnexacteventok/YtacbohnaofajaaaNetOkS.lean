/-
  spec.LinkOk, l03Ahead, l03Thing, NetOk: their contracts.
-/
import Derived.Test.YtacbohnaofajaaaInB
import Derived.Test.YtacbohnaofajaaaNets
namespace Go.Proofs.Ytacbohnaofajaaa
open Go.RowKit

def linkOkB (n : Int) (l : Lk) : Bool := inB n 1 6 && inB l.a 1 n && inB l.b 1 n && decide (l.a < l.b) && inB l.c 1 1000 && inB l.r 0 2

def aheadB (a b : Lk) : Bool := decide (a.a < b.a) || (a.a == b.a && (decide (a.b < b.b) || (a.b == b.b && decide (a.r < b.r))))

def thingB (a b : Th) : Bool := decide (a.k < b.k) || (a.k == b.k && decide (a.o < b.o))

end Go.Proofs.Ytacbohnaofajaaa
