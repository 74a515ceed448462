/-
  spec.CostTo: its contract.
  laws.markNearS, heldNearS, markRecord, heldRecord: only the row's own memory turns; what was marked is held.
  spec.SameKey, spec.SameBody: their contracts.
  spec.Before: its contract.
  impl.ofItsKind, the three keyOk methods: their contracts.
  laws.markIntS, markWay, heldWay: only the row's own memory turns; what was marked is held.
  spec.Better, impl.Better: their contracts.
  cmp.Compare, cmp.Or, impl.orderOfLinks, impl.orderOfThings: their contracts.
  Routes as values; laws.szRoute, toRoute, eqRoute.
-/
import Derived.Test.YthmmpmbnpfhloaaDoorSh3
namespace Go.Proofs.YthmmpmbnpfhloaaDoor
open Go.RowKit

def lkHit (f t r : Int) (l : Lk) : Bool := l.r == r && ((l.a == f && l.b == t) || (l.a == t && l.b == f))

def costN (ls : List Lk) (f t r : Int) : Int := ((ls.find? (lkHit f t r)).map (·.c)).getD 0

theorem find_first {α : Type} (p : α → Bool) : ∀ (ls : List α) (k : Nat) (l : α), (∀ j, j < k → ∀ x, ls[j]? = some x → p x = false) → ls[k]? = some l → p l = true → ls.find? p = some l
  | [], _, _, _, h, _ => by simp at h
  | y :: ys, 0, l, _, h, hp => by simp at h; subst h; simp [hp]
  | y :: ys, k + 1, l, hno, h, hp => by
    have h0 := hno 0 (by omega) y rfl
    rw [List.find?_cons, h0]
    exact find_first p ys k l (fun j hj x hx => hno (j + 1) (by omega) x (by simpa using hx)) (by simpa using h) hp

theorem find_noneL {α : Type} (p : α → Bool) (ls : List α) (h : ∀ j, j < ls.length → ∀ x, ls[j]? = some x → p x = false) : ls.find? p = none := by
  rw [List.find?_eq_none]
  intro x hx
  obtain ⟨i, hi, e⟩ := List.mem_iff_getElem.1 hx
  rw [h i hi x (by rw [List.getElem?_eq_getElem hi, e])]
  decide

theorem no_next {α : Type} {p : α → Bool} {ls : List α} {k : Nat} {l : α} (h : ∀ j, j < k → ∀ x, ls[j]? = some x → p x = false) (hl : ls[k]? = some l) (hp : p l = false) : ∀ j, j < k + 1 → ∀ x, ls[j]? = some x → p x = false := by
  intro j hj x hx
  by_cases e : j = k
  · subst e; rw [hl] at hx; cases hx; exact hp
  · exact h j (by omega) x hx

theorem cost_hit {ls : List Lk} {f t r : Int} {k : Nat} {l : Lk} (h : ∀ j, j < k → ∀ x, ls[j]? = some x → lkHit f t r x = false) (hl : ls[k]? = some l) (hp : lkHit f t r l = true) : costN ls f t r = l.c := by
  unfold costN; rw [find_first _ ls k l h hl hp]; rfl

theorem cost_next {ls : List Lk} {f t r : Int} {k : Nat} {l : Lk} (h : ∀ j, j < k → ∀ x, ls[j]? = some x → lkHit f t r x = false) (hl : ls[k]? = some l) (hp : lkHit f t r l = false) : ∀ j, j < k + 1 → ∀ x, ls[j]? = some x → lkHit f t r x = false := no_next h hl hp

theorem cost_none {ls : List Lk} {f t r : Int} {k : Nat} (h : ∀ j, j < k → ∀ x, ls[j]? = some x → lkHit f t r x = false) (hk : k = ls.length) : costN ls f t r = 0 := by
  unfold costN; rw [find_noneL _ ls (by rw [← hk]; exact h)]; rfl

set_option maxRecDepth 100000 in
set_option maxHeartbeats 1000000 in
theorem scost_any (n : Value) (v tv : Value) (ls : List Lk) (f t r : Int) (w : World) (hls : ls.length ≤ 1048576) (hv : LinksAt w v ls w.heap.size) :
    Calls Tryd.prog 63 #[.agg #[n, v, tv], .int .i64 f, .int .i64 t, .int .i64 r] w fun e w' => e = .returned (.int .i64 (costN ls f t r)) ∧ Below w.heap.size w w' := by
  obtain ⟨a, cap, rfl⟩ : ∃ a cap, v = .slice a ls.length cap := by obtain ⟨a, cap, h, _⟩ := hv; exact ⟨a, cap, h⟩
  have HV := hide hv
  clear hv
  go_enter Tryd.func63, Tryd.ntmps63
  go_wp2
  go_loopw [9] (fun i wr => ∃ k : Nat, k ≤ ls.length ∧ i = .int .i64 k ∧ (∀ j, j < k → ∀ l, ls[j]? = some l → lkHit f t r l = false) ∧ Below w.heap.size w wr ∧ wr.heap[w.heap.size]? = some (.cells #[n, .slice a ls.length cap, tv] 45)) (fun i _ => ls.length - (intOf i).toNat)
  case atStart => exact ⟨0, by omega, rfl, by omega, (Below.refl _ _).alloc (Nat.le_refl _) _, heap_alloc_new w _⟩
  case round =>
    obtain ⟨k, hk, rfl, hno, hb, hx⟩ := hrel
    have hx1 : wr.cell? ⟨w.heap.size, 1, none⟩ = some (.slice a ls.length cap) := by rw [cells_at hx]; rfl
    have HX := hide hx
    have HNO := hide hno
    clear hx hno
    by_cases hlt : k < ls.length
    · obtain ⟨l, hl⟩ : ∃ l, ls[k]? = some l := ⟨ls[k], List.getElem?_eq_getElem hlt⟩
      obtain ⟨b, off, cap', hve, hbb, c0, c1, c2, c3⟩ := HV.out.cells k l hl
      cases hve
      rw [← hb.cell (p := ⟨b, off + k * 4, none⟩) hbb] at c0
      rw [← hb.cell (p := ⟨b, off + k * 4 + 1, none⟩) hbb] at c1
      rw [← hb.cell (p := ⟨b, off + k * 4 + 2, none⟩) hbb] at c2
      rw [← hb.cell (p := ⟨b, off + k * 4 + 3, none⟩) hbb] at c3
      have HL := hide hl
      clear hl
      obtain ⟨la, lb, lc, lr⟩ := l
      go_wp2
      all_goals first
        | (go_ret
           refine ⟨ret_int (cost_hit HNO.out HL.out ?_).symm, hb.alloc hb.size _⟩
           clear HV HX HL HNO hb hx1 c0 c1 c2 c3
           simp only [lkHit]
           grind)
        | (refine ⟨⟨k + 1, by omega, by go_num, cost_next HNO.out HL.out ?_, hb.alloc hb.size _, ?_⟩, by simp [intOf]; omega⟩
           · clear HV HX HL HNO hb hx1 c0 c1 c2 c3
             simp only [lkHit]
             grind
           · rw [Below.heap_alloc _ _ _ (lt_of_heap HX.out)]; exact HX.out)
        | (subst_vars
           refine ⟨⟨k + 1, by omega, by go_num, cost_next HNO.out HL.out ?_, hb.alloc hb.size _, ?_⟩, by simp [intOf]; omega⟩
           · clear HV HX HL HNO hb hx1 c0 c1 c2 c3
             simp only [lkHit]
             grind
           · rw [Below.heap_alloc _ _ _ (lt_of_heap HX.out)]; exact HX.out)
    · have hk' : k = ls.length := by omega
      have HK := hide hk'
      clear hk'
      go_wp2
      go_ret
      exact ⟨ret_int (cost_none HNO.out HK.out).symm, hb⟩
end Go.Proofs.YthmmpmbnpfhloaaDoor
namespace Go.Proofs.YthmmpmbnpfhloaaDoor
open Go.RowKit

def mk (q : Int) (i : Nat) : Nr := ⟨q + 2 * (i : Int), q + 2 * (i : Int) + 1⟩

theorem grown_refl (w : World) (r : Option Nat) : w.grownBy w r := ⟨rfl, rfl, rfl, Nat.le_refl _, fun _ _ _ => rfl⟩

theorem ret_int1 {a b : Int} (h : a = b) : Ending.returned (.int .i64 a) = .returned (.int .i64 b) := by rw [h]

end Go.Proofs.YthmmpmbnpfhloaaDoor
namespace Go.Proofs.YthmmpmbnpfhloaaDoor
open Go.RowKit

def sameKeyB (x y : RecD) : Bool := x.area == y.area && x.kind == y.kind && x.owner == y.owner && x.key == y.key

set_option maxRecDepth 100000 in
set_option maxHeartbeats 4000000 in
theorem ssameKey_any (v1 v2 : Value) (x y : RecD) (w : World) : Calls Tryd.prog 83 #[.agg (recC x v1), .agg (recC y v2)] w fun e w' => e = .returned (.bool (sameKeyB x y)) ∧ Below w.heap.size w w' := by
  obtain ⟨a0, a1, a2, a3, a4, ns, a6, a7⟩ := x
  obtain ⟨b0, b1, b2, b3, b4, ms, b6, b7⟩ := y
  unfold recC
  simp only []
  go_enter Tryd.func83, Tryd.ntmps83
  go_wp2
  all_goals go_ret
  all_goals refine ⟨ret_bool ?_, below_two _ _⟩
  all_goals (simp only [sameKeyB]; grind)

end Go.Proofs.YthmmpmbnpfhloaaDoor
namespace Go.Proofs.YthmmpmbnpfhloaaDoor
open Go.RowKit

def beforeB (x y : RecD) : Bool := decide (x.area < y.area) || (x.area == y.area && (decide (x.kind < y.kind) || (x.kind == y.kind && (decide (x.owner < y.owner) || (x.owner == y.owner && decide (x.key < y.key))))))

set_option maxRecDepth 100000 in
set_option maxHeartbeats 4000000 in
theorem sbefore_any (v1 v2 : Value) (x y : RecD) (w : World) : Calls Tryd.prog 52 #[.agg (recC x v1), .agg (recC y v2)] w fun e w' => e = .returned (.bool (beforeB x y)) ∧ Below w.heap.size w w' := by
  obtain ⟨a0, a1, a2, a3, a4, ns, a6, a7⟩ := x
  obtain ⟨b0, b1, b2, b3, b4, ms, b6, b7⟩ := y
  unfold recC
  simp only []
  go_enter Tryd.func52, Tryd.ntmps52
  go_wp2
  all_goals go_ret
  all_goals refine ⟨ret_bool ?_, below_two _ _⟩
  all_goals (simp only [beforeB]; grind)
end Go.Proofs.YthmmpmbnpfhloaaDoor
namespace Go.Proofs.YthmmpmbnpfhloaaDoor
open Go.RowKit

end Go.Proofs.YthmmpmbnpfhloaaDoor
namespace Go.Proofs.YthmmpmbnpfhloaaDoor
open Go.RowKit

end Go.Proofs.YthmmpmbnpfhloaaDoor
namespace Go.Proofs.YthmmpmbnpfhloaaDoor
open Go.RowKit

def betterB (x y : WayD) : Bool := decide (x.cost < y.cost)

set_option maxRecDepth 100000 in
set_option maxHeartbeats 1000000 in
theorem sbetter_any (u1 u2 : Value) (x y : WayD) (w : World) : Calls Tryd.prog 71 #[.agg (wayC x u1), .agg (wayC y u2)] w fun e w' => e = .returned (.bool (betterB x y)) ∧ Below w.heap.size w w' := by
  unfold wayC betterB
  go_enter Tryd.func71, Tryd.ntmps71
  go_wp2
  go_ret
  exact ⟨rfl, below_two _ _⟩

end Go.Proofs.YthmmpmbnpfhloaaDoor
namespace Go.Proofs.YthmmpmbnpfhloaaDoor
open Go.RowKit

/-- the first that is not 0 -/
def orN : List Int → Int
  | [] => 0
  | x :: xs => if x = 0 then orN xs else x

def ordL (l m : Lk) : Int := orN [cmpN l.a m.a, cmpN l.b m.b, cmpN l.r m.r]

def ordT (l m : Th) : Int := orN [cmpN l.k m.k, cmpN l.o m.o]

end Go.Proofs.YthmmpmbnpfhloaaDoor
namespace Go.Proofs.YthmmpmbnpfhloaaDoor
open Go.RowKit

structure RtD where
  thing : Bool
  to : Int
  kind : Int
  cost : Int
  far : Int
  hops : List Int
  deriving DecidableEq

def rtC (x : RtD) (v : Value) : Array Value := #[.bool x.thing, .int .i64 x.to, .int .i64 x.kind, .int .i64 x.cost, .int .i64 x.far, v]

/-- the value v is the way x, whose row lies below B -/
def RtAt (W : World) (v : Value) (x : RtD) (B : Nat) : Prop := ∃ v1, v = .agg (rtC x v1) ∧ HopsAt W v1 x.hops B

theorem RtAt.then {W W' : World} {v : Value} {x : RtD} (h : RtAt W v x W.heap.size) (hb : Below W.heap.size W W') : RtAt W' v x W'.heap.size := by
  obtain ⟨v1, hv, h1⟩ := h
  exact ⟨v1, hv, h1.then hb⟩

end Go.Proofs.YthmmpmbnpfhloaaDoor
