/-
  IBef
-/
import Derived.Test.YtadokhjefnkajaaGreatIe7
import Derived.Test.YtadokhjefnkajaaGreatIe3
import Derived.Test.YtadokhjefnkajaaGreatIe5
namespace Go.Proofs.YtadokhjefnkajaaGreat
open Go.RowKit
set_option linter.unusedSimpArgs false
set_option linter.unusedVariables false
set_option maxRecDepth 100000
set_option maxHeartbeats 8000000
def Zd5 (W:World)(p:Nat)(a b c d:Int):Prop:=(W.cell? ⟨p,0,none⟩=some (.int .i64 a)/\W.cell? ⟨p,1,none⟩=some (.int .i64 b)/\W.cell? ⟨p,2,none⟩=some (.int .i64 c)/\W.cell? ⟨p,3,none⟩=some (.int .i64 d))/\W.frozen? ⟨p,0,none⟩=false/\W.frozen? ⟨p,1,none⟩=false/\W.frozen? ⟨p,2,none⟩=false/\W.frozen? ⟨p,3,none⟩=false
theorem Zd5.lt {W:World}{p:Nat}{a b c d:Int}(h:Zd5 W p a b c d):p<W.heap.size:=World.block_lt_of_cell? W _ h.1.1
theorem Zd5.below {W w2:World}{p:Nat}{a b c d:Int}(h:Zd5 W p a b c d)(hb:Below W.heap.size W w2):Zd5 w2 p a b c d:=by
 have hp:=h.lt;obtain⟨⟨h0,h1,h2,h3⟩,f0,f1,f2,f3⟩:=h;refine⟨⟨?_,?_,?_,?_⟩,?_,?_,?_,?_⟩
 ·rw [hb.cell (p:=⟨p,0,none⟩) hp];exact h0
 ·rw [hb.cell (p:=⟨p,1,none⟩) hp];exact h1
 ·rw [hb.cell (p:=⟨p,2,none⟩) hp];exact h2
 ·rw [hb.cell (p:=⟨p,3,none⟩) hp];exact h3
 ·rw [hb.frozen (p:=⟨p,0,none⟩) hp];exact f0
 ·rw [hb.frozen (p:=⟨p,1,none⟩) hp];exact f1
 ·rw [hb.frozen (p:=⟨p,2,none⟩) hp];exact f2
 ·rw [hb.frozen (p:=⟨p,3,none⟩) hp];exact f3
theorem Zd5.alloc {W:World}{p:Nat}{a b c d:Int}(h:Zd5 W p a b c d)(o:Obj):Zd5 (W.alloc o) p a b c d:=h.below ((Below.refl _ _).alloc (Nat.le_refl _) _)
theorem Zd5.same {W W':World}{p:Nat}{a b c d:Int}(h:Zd5 W p a b c d)(e:W.heap=W'.heap):Zd5 W' p a b c d:=by
 unfold Zd5 World.cell? World.frozen? at *;rw [<-e];exact h
end Go.Proofs.YtadokhjefnkajaaGreat
