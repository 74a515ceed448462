/-
  spec.DrawBefore, and what the law FnAhead says of two records, in plain words.
-/
import Derived.Test.YtohjphhocdgpgaaDrawTwo
import Derived.Test.YtohjphhocdgpgaaIBefM
import Derived.Test.YtohjphhocdgpgaaIBody
import Derived.Test.YtohjphhocdgpgaaBefS
namespace Go.Proofs.Ytohjphhocdgpgaa
open Go.RowKit

set_option linter.unusedSimpArgs false

set_option maxRecDepth 100000 in
set_option maxHeartbeats 2000000 in
theorem drawBef_any (a : Option Addr) (len cap : Nat) (w : World) (hc : Code w a len w.heap.size) :
    Calls Try.prog 24 #[.slice a len cap] w fun e w' => ∃ (x y : RecD) (va vb : Value), e = .returned (.tuple #[.agg (recC x va), .agg (recC y vb)]) ∧ w'.ownsRow w.heap.size 67 2 va x.near.length (flat nrE x.near) ∧ w'.ownsRow w.heap.size 67 2 vb y.near.length (flat nrE y.near) ∧ x.near.length ≤ 7 ∧ y.near.length ≤ 7 ∧ Below w.heap.size w w' := by
  have HC := hide hc
  clear hc
  go_enter Try.func24, Try.ntmps24
  go_wp2_with fail
  refine (twoD_any a len cap _ (code_later HC.out (((Below.refl w.heap.size w).alloc (Nat.le_refl _) _).alloc (by simp) _))).mono ?_
  rintro e w1 ⟨x, y, va, vb, rfl, hoa, hob, hla, hlb, hb1⟩
  have hps : ((w.alloc (.cells zeroC 26)).alloc (.cells zeroC 26)).heap.size = w.heap.size + 2 := by simp
  unfold zeroC at hps
  rw [hps] at hoa hob hb1
  have q0 : w1.heap[w.heap.size]? = some (.cells zeroC 26) := by
    rw [hb1.block _ (by omega), Below.heap_alloc _ _ _ (by simp), heap_alloc_new]; rfl
  have q1 : w1.heap[w.heap.size + 1]? = some (.cells zeroC 26) := by
    rw [hb1.block _ (by omega)]
    have e := heap_alloc_new (w.alloc (.cells zeroC 26)) (.cells zeroC 26)
    rw [show (w.alloc (.cells zeroC 26)).heap.size = w.heap.size + 1 by simp] at e
    exact e
  have bel1 : Below w.heap.size w w1 := (((Below.refl w.heap.size w).alloc (Nat.le_refl _) _).alloc (by simp) _).trans (hb1.mono (by omega))
  obtain ⟨aa, ac, rfl⟩ := owns_lenS hoa
  obtain ⟨ba, bc, rfl⟩ := owns_lenS hob
  have hg1 := grown8 w1 w.heap.size x (.slice aa x.near.length ac)
  have q2 := fin8 x (.slice aa x.near.length ac) q0
  have q3 : (putR w1 w.heap.size x (.slice aa x.near.length ac)).heap[w.heap.size + 1]? = some (.cells zeroC 26) := by rw [hg1.block _ (lt_of_heap q1) (by simp)]; exact q1
  have hg2 := grown8 (putR w1 w.heap.size x (.slice aa x.near.length ac)) (w.heap.size + 1) y (.slice ba y.near.length bc)
  have q4 := fin8 y (.slice ba y.near.length bc) q3
  have q5 := (hg2.block w.heap.size (lt_of_heap q2) (by simp)).trans q2
  have oa := owns_baseS (b0 := w.heap.size) (kept_ne (kept_ne hoa hg1 (fun e => by have := (hoa.lt _ e).1; omega)) hg2 (fun e => by have := (hoa.lt _ e).1; omega)) (by omega)
  have ob := owns_baseS (b0 := w.heap.size) (kept_ne (kept_ne hob hg1 (fun e => by have := (hob.lt _ e).1; omega)) hg2 (fun e => by have := (hob.lt _ e).1; omega)) (by omega)
  have bel2 := (bel1.grown hg1 bel1.size (fun k hk => by simp at hk; omega)).grown hg2 (by have := lt_of_heap q3; omega) (fun k hk => by simp at hk; omega)
  have Q4 := hide q4
  have Q5 := hide q5
  have OA := hide oa
  have OB := hide ob
  have BB := hide bel2
  have HLA := hide hla
  have HLB := hide hlb
  unfold zeroC at q0 q3
  have m0 := cells_at q0 0
  have m1 := cells_at q0 1
  have m2 := cells_at q0 2
  have m3 := cells_at q0 3
  have m4 := cells_at q0 4
  have m5 := cells_at q0 5
  have m6 := cells_at q0 6
  have m7 := cells_at q0 7
  simp at m0 m1 m2 m3 m4 m5 m6 m7
  have fm := frozen_at q0
  have n0 := cells_at q3 0
  have n1 := cells_at q3 1
  have n2 := cells_at q3 2
  have n3 := cells_at q3 3
  have n4 := cells_at q3 4
  have n5 := cells_at q3 5
  have n6 := cells_at q3 6
  have n7 := cells_at q3 7
  simp at n0 n1 n2 n3 n4 n5 n6 n7
  have fn := frozen_at q3
  clear hg1 hg2 q0 q1 q2 q3 q4 q5 oa ob bel1 bel2 hoa hob hb1 hps hla hlb HC
  unfold recC
  go_wp2_with fail
  (try simp only [Exit.inBlock, Exit.then])
  refine bodyPost_ret (results_two rfl _ _ w.heap.size (w.heap.size + 1) 26 26 (recC _ _) (recC _ _) (0, 0) (0, 0) _ rfl Q5.out rfl Q4.out Try.underlying26 rfl (by kernel_rfl) (by kernel_rfl)) rfl ?_
  exact ⟨_, _, _, _, rfl, OA.out, OB.out, HLA.out, HLB.out, BB.out⟩

/-- of two records one is ahead of the other, or they have the same key -/
theorem ahead_three (x y : RecD) :
    (beforeB x y = true ∧ beforeB y x = false ∧ sameKeyB x y = false ∧ sameKeyB y x = false ∧ sameBodyB x y = false) ∨
    (beforeB x y = false ∧ beforeB y x = true ∧ sameKeyB x y = false ∧ sameKeyB y x = false ∧ sameBodyB x y = false) ∨
    (beforeB x y = false ∧ beforeB y x = false ∧ sameKeyB x y = true ∧ sameKeyB y x = true) := by
  have hb : ∀ u v : RecD, beforeB u v = decide (u.area < v.area ∨ (u.area = v.area ∧ (u.kind < v.kind ∨ (u.kind = v.kind ∧ (u.owner < v.owner ∨ (u.owner = v.owner ∧ u.key < v.key)))))) := by
    intro u v
    rw [Bool.eq_iff_iff]
    simp [beforeB]
  have hk : ∀ u v : RecD, sameKeyB u v = decide (u.area = v.area ∧ u.kind = v.kind ∧ u.owner = v.owner ∧ u.key = v.key) := by
    intro u v
    rw [Bool.eq_iff_iff]
    simp [sameKeyB, and_assoc]
  have hs : sameKeyB x y = false → sameBodyB x y = false := by
    intro h
    simp [sameBodyB, h]
  rw [hb x y, hb y x, hk y x]
  by_cases k : x.area = y.area ∧ x.kind = y.kind ∧ x.owner = y.owner ∧ x.key = y.key
  · right; right
    refine ⟨decide_eq_false (by omega), decide_eq_false (by omega), by rw [hk]; exact decide_eq_true k, decide_eq_true (by omega)⟩
  · have k1 : sameKeyB x y = false := by rw [hk]; exact decide_eq_false k
    by_cases c : x.area < y.area ∨ (x.area = y.area ∧ (x.kind < y.kind ∨ (x.kind = y.kind ∧ (x.owner < y.owner ∨ (x.owner = y.owner ∧ x.key < y.key)))))
    · left
      exact ⟨decide_eq_true c, decide_eq_false (by omega), k1, decide_eq_false (by omega), hs k1⟩
    · right; left
      exact ⟨decide_eq_false c, decide_eq_true (by omega), k1, decide_eq_false (by omega), hs k1⟩

theorem body_self (x : RecD) : sameBodyB x x = true := by simp [sameBodyB, sameKeyB]

/-- the two records of the law in their boxes -/
structure TwoIn (w W : World) (g h : Nat) (va vb : Value) (x y : RecD) : Prop where
  low : w.heap.size ≤ g
  bel : Below w.heap.size w W
  ba : W.heap[g]? = some (.cells (recC x va) 26)
  bb : W.heap[h]? = some (.cells (recC y vb) 26)
  na : NearsAt W va x.near W.heap.size
  nb : NearsAt W vb y.near W.heap.size

theorem TwoIn.then {w W W' : World} {g h : Nat} {va vb : Value} {x y : RecD} (t : TwoIn w W g h va vb x y) (hb : Below W.heap.size W W') : TwoIn w W' g h va vb x y where
  low := t.low
  bel := t.bel.trans (hb.mono t.bel.size)
  ba := by rw [hb.block g (lt_of_heap t.ba)]; exact t.ba
  bb := by rw [hb.block h (lt_of_heap t.bb)]; exact t.bb
  na := t.na.then hb
  nb := t.nb.then hb

theorem load_yields {P : Program} {o : Oper} {a : Act} {S : World → Prop} (ty : TypeId) (x : Operand) (ho : o.op = .load ty x)
    (g : Nat) (hx : a.eval x = .pointer (some ⟨g, 0, none⟩)) (t : TypeId) (cs : Array Value) (fr : Nat × Nat) (d : TypeDesc) (hg : ∀ w, S w → w.heap[g]? = some (.cells cs t fr))
    (hu : P.underlying ty = some d) (hd : (match d with | .struct _ | .array _ _ => true | _ => false) = true) (hi : (P.info? ty).map (·.size) = some cs.size) :
    ∀ w, S w → (execOp a.eval o).run P w = .ok (.value (.agg cs)) w := by
  intro w hw
  unfold execOp
  simp only [ho, hx, Instr.loadAt, Instr.sureAddr, Sem.run_bind, Sem.run_pure, Result.andThen_ok, run_loadVar_row w g t ty cs fr d (hg w hw) hu hd hi]
end Go.Proofs.Ytohjphhocdgpgaa
