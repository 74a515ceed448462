/-
  A script under way: its box, its rows; what turns and what stays.
  Right nets: lists that ascend; a net under way while it is drawn.
-/
import Derived.Test.YtpiookjdeopmgaaDoorRd19
import Derived.Test.YtpiookjdeopmgaaDoorRd17
namespace Go.Proofs.YtpiookjdeopmgaaDoor
open Go.RowKit

set_option linter.unusedSimpArgs false
set_option linter.unusedVariables false

structure SD where
  n : Int
  ls : List Lk
  ts : List Th
  es : List EvD

def evE (x : EvD) : List Value := [.int .i64 x.k, .int .i64 x.n, .int .i64 x.a, .string x.s]
theorem evE_len (x : EvD) : (evE x).length = 4 := rfl
theorem evE_one (x : EvD) : ∀ u ∈ evE x, u.oneCell' = true := by
  intro u hu
  simp only [evE, List.mem_cons, List.not_mem_nil, or_false] at hu
  rcases hu with rfl | rfl | rfl | rfl <;> rfl

structure ScAt (w : World) (lo sa m : Nat) (s : SD) (v1 v2 v3 : Value) : Prop where
  box : w.heap[sa]? = some (.cells #[.int .i64 s.n, v1, v2, v3, .map (some m)] 62)
  r1 : w.ownsRow lo 77 4 v1 s.ls.length (flat lkE s.ls)
  r2 : w.ownsRow lo 81 4 v2 s.ts.length (flat thE s.ts)
  r3 : w.ownsRow lo 53 4 v3 s.es.length (flat evE s.es)
  low : lo ≤ sa

def ScIn (w : World) (lo sa m : Nat) (s : SD) : Prop := ∃ v1 v2 v3, ScAt w lo sa m s v1 v2 v3

/-- whatever is no row of a script and no box of one stays -/
structure FrS (lo : Nat) (w w' : World) : Prop where
  below : Below lo w w'
  other : ∀ (k : Nat) (o : Obj), w.heap[k]? = some o → (∀ (cs : Array Value) (t : TypeId) (fr : Nat × Nat), o = Obj.cells cs t fr → t ≠ 77 ∧ t ≠ 81 ∧ t ≠ 53 ∧ t ≠ 62) → w'.heap[k]? = some o

theorem FrS.trans {lo : Nat} {w w1 w2 : World} (h : FrS lo w w1) (g : FrS lo w1 w2) : FrS lo w w2 :=
  ⟨h.below.trans g.below, fun k o hk ho => g.other k o (h.other k o hk ho) ho⟩

theorem FrS.of {lo : Nat} {w w' : World} (h : Below w.heap.size w w') (hlo : lo ≤ w.heap.size) : FrS lo w w' :=
  ⟨h.mono hlo, fun k o hk _ => (h.block k (lt_of_heap hk)).trans hk⟩

theorem FrS.drew {lo : Nat} {w w' : World} (h : FrS lo w w') : FrS lo w w'.drew := ⟨h.below.drew, fun k o hk ho => h.other k o hk ho⟩

theorem ScAt.size {w : World} {lo sa m : Nat} {s : SD} {v1 v2 v3 : Value} (h : ScAt w lo sa m s v1 v2 v3) : sa < w.heap.size := lt_of_heap h.box

theorem ScAt.below {w w' : World} {lo sa m : Nat} {s : SD} {v1 v2 v3 : Value} (h : ScAt w lo sa m s v1 v2 v3) (hb : Below w.heap.size w w') : ScAt w' lo sa m s v1 v2 v3 :=
  ⟨(hb.block _ h.size).trans h.box, owns_below h.r1 hb (Nat.le_refl _), owns_below h.r2 hb (Nat.le_refl _), owns_below h.r3 hb (Nat.le_refl _), h.low⟩

/-- a row of a type is not in a block of another one -/
theorem own_ne {w : World} {base size n : Nat} {e t : TypeId} {v : Value} {xs : List Value} {k : Nat} {cs : Array Value} {fr : Nat × Nat} (h : w.ownsRow base e size v n xs) (hk : w.heap[k]? = some (.cells cs t fr)) (hne : t ≠ e) : v.ownBlock ≠ some k := by
  intro he
  rcases h.2 with ⟨rfl, _⟩ | ⟨g, cap, cur, rfl, _, hg, _⟩
  · cases he
  · simp [Value.ownBlock] at he
    subst he
    rw [hg] at hk
    cases hk
    exact hne rfl

theorem owns_put {w : World} {base size n p j : Nat} {e t : TypeId} {v u : Value} {xs : List Value} {cs : Array Value} {fr : Nat × Nat} (h : w.ownsRow base e size v n xs) (hp : w.heap[p]? = some (.cells cs t fr)) (hne : t ≠ e) : (w.setCell ⟨p, j, none⟩ u).ownsRow base e size v n xs := by
  have h1 := own_ne h hp hne
  rcases h with ⟨hl, h2⟩
  refine ⟨hl, ?_⟩
  rcases h2 with h3 | ⟨g, cap, cur, rfl, hb, hg, h4⟩
  · exact .inl h3
  · refine .inr ⟨g, cap, cur, rfl, hb, ?_, h4⟩
    rw [heap_setCell_other _ ⟨p, j, none⟩ _ _ (fun e => h1 (by rw [show g = p from e]; rfl))]
    exact hg

theorem FrS.set {lo sa j : Nat} {w : World} {cs : Array Value} {fr : Nat × Nat} (u : Value) (hb : w.heap[sa]? = some (.cells cs 62 fr)) (hlo : lo ≤ sa) : FrS lo w (w.setCell ⟨sa, j, none⟩ u) :=
  ⟨(Below.refl lo w).setCell (p := ⟨sa, j, none⟩) hlo u, fun k o hk ho => by
    rw [heap_setCell_other _ ⟨sa, j, none⟩ _ _ (fun e => by
      have e2 : k = sa := e
      subst e2
      rw [hb] at hk
      cases hk
      exact (ho _ _ _ rfl).2.2.2 rfl)]
    exact hk⟩

theorem FrS.grown {lo base size n : Nat} {w w' : World} {e : TypeId} {v : Value} {xs : List Value} (hg : w.grownBy w' v.ownBlock) (h : w.ownsRow base e size v n xs) (hlo : lo ≤ base) (hw : lo ≤ w.heap.size) (he : e = 77 ∨ e = 81 ∨ e = 53) : FrS lo w w' :=
  ⟨⟨hg.os, hg.tape, hg.output, hg.size, fun k hk => hg.block k (by omega) (fun e => by have := (h.lt k e.symm).1; omega)⟩, fun k o hk ho => by
    rw [hg.block k (lt_of_heap hk) (fun e2 => by
      rcases h.2 with ⟨rfl, _⟩ | ⟨g, cap, cur, rfl, _, hh, _⟩
      · cases e2
      · simp [Value.ownBlock] at e2
        subst e2
        rw [hh] at hk
        cases hk
        have := ho _ _ _ rfl
        rcases he with rfl | rfl | rfl
        · exact this.1 rfl
        · exact this.2.1 rfl
        · exact this.2.2.1 rfl)]
    exact hk⟩

theorem ScAt.net {w : World} {lo sa m : Nat} {s : SD} {v1 v2 v3 : Value} (h : ScAt w lo sa m s v1 v2 v3) : NetAt w (.agg #[.int .i64 s.n, v1, v2]) ⟨s.n, s.ls, s.ts⟩ w.heap.size :=
  ⟨v1, v2, rfl, owns_rowAt h.r1, owns_rowAt h.r2⟩

def netF (s : SD) (k : Int) : Option SD := if 0 < s.n then none else if netOkI ⟨k, s.ls, s.ts⟩ = true then some { s with n := k } else none

set_option maxRecDepth 100000 in
set_option maxHeartbeats 4000000 in
theorem takeNet_any (lo sa m : Nat) (s : SD) (k : Int) (v1 v2 v3 : Value) (w : World) (h : ScAt w lo sa m s v1 v2 v3) (hlo : lo ≤ w.heap.size) (hl : s.ls.length ≤ 1000) (ht : s.ts.length ≤ 1000) :
    Calls Tryd.prog 51 #[.pointer (some ⟨sa, 0, none⟩), .int .i64 k] w fun e w' => e = .returned (.bool (netF s k).isSome) ∧ FrS lo w w' ∧ ∀ s', netF s k = some s' → ScIn w' lo sa m s' := by
  obtain ⟨n, ls, ts, es⟩ := s
  have HS := hide h
  have hbox := h.box
  simp only [] at hbox hl ht
  have c0 := cells_at hbox 0
  simp at c0
  have fz := frozen_at hbox
  obtain ⟨a1, b1, rfl⟩ := owns_lenS h.r1
  obtain ⟨a2, b2, rfl⟩ := owns_lenS h.r2
  obtain ⟨a3, b3, rfl⟩ := owns_lenS h.r3
  simp only [] at hbox
  clear h
  obtain ⟨G, hG⟩ : ∃ G, G = netF ⟨n, ls, ts, es⟩ k := ⟨_, rfl⟩
  rw [← hG]
  have GL : Hid (G = netF ⟨n, ls, ts, es⟩ k) := hG
  clear hG
  by_cases hn : 0 < n
  · have g := hide (show G = none by rw [GL.out, netF, if_pos hn])
    go_enter Tryd.func51, Tryd.ntmps51
    go_wp2
    go_ret
    exact ⟨by rw [g.out]; rfl, FrS.of (Below.refl _ _) hlo, fun s' e => by rw [g.out] at e; cases e⟩
  · have y := heap_setCell_same _ _ 0 _ _ (Value.int .i64 k) hbox
    simp only [List.setIfInBounds_toArray, List.set_cons_zero] at y
    have st : ScAt (w.setCell ⟨sa, 0, none⟩ (.int .i64 k)) lo sa m ⟨k, ls, ts, es⟩ (.slice a1 ls.length b1) (.slice a2 ts.length b2) (.slice a3 es.length b3) :=
      ⟨y, owns_put HS.out.r1 hbox (by decide), owns_put HS.out.r2 hbox (by decide), owns_put HS.out.r3 hbox (by decide), HS.out.low⟩
    have f1 := hide (FrS.set (j := 0) (.int .i64 k) hbox HS.out.low)
    have d0 := cells_at y 0
    have d1 := cells_at y 1
    have d2 := cells_at y 2
    simp at d0 d1 d2
    have HN := hide (inetOk_any _ ⟨k, ls, ts⟩ _ (by simp only []; omega) (by simp only []; omega) st.net)
    obtain ⟨q, hq⟩ : ∃ q, q = netOkI ⟨k, ls, ts⟩ := ⟨_, rfl⟩
    rw [← hq] at HN
    have ST := hide st
    have g := hide (show G = if q = true then some ⟨k, ls, ts, es⟩ else none by rw [GL.out, netF, if_neg hn, hq])
    clear st hq y
    go_enter Tryd.func51, Tryd.ntmps51
    go_wp2_with fail
    refine HN.out.mono ?_
    rintro e w1 ⟨rfl, bc⟩
    have F := hide (f1.out.trans (FrS.of bc (by have := f1.out.below.size; omega)))
    have S2 := hide (ST.out.below bc)
    clear bc
    cases q
    · go_wp2
      go_ret
      exact ⟨by rw [g.out]; rfl, F.out, fun s' e => by rw [g.out] at e; cases e⟩
    · go_wp2
      go_ret
      exact ⟨by rw [g.out]; rfl, F.out, fun s' e => by rw [g.out] at e; cases e; exact ⟨_, _, _, S2.out⟩⟩
end Go.Proofs.YtpiookjdeopmgaaDoor
namespace Go.Proofs.YtpiookjdeopmgaaDoor
open Go.RowKit

theorem aheadB_iff (a b : Lk) : aheadB a b = true ↔ (a.a < b.a ∨ (a.a = b.a ∧ (a.b < b.b ∨ (a.b = b.b ∧ a.r < b.r)))) := by
  simp [aheadB]

theorem thingB_iff (a b : Th) : thingB a b = true ↔ (a.k < b.k ∨ (a.k = b.k ∧ a.o < b.o)) := by
  simp [thingB]

theorem filter_two {α : Type} {p q : α → Bool} (h : ∀ x, p x = true → q x = true → False) : ∀ ls : List α, (ls.filter p).length + (ls.filter q).length ≤ ls.length
  | [] => by simp
  | x :: xs => by
    have ih := filter_two h xs
    have hx := h x
    cases hp : p x <;> cases hq : q x <;> simp_all <;> omega

theorem putL_len (ls : List Lk) (l : Lk) : (putLk ls l).length ≤ ls.length + 1 := by
  have h := filter_two (p := fun x => aheadB x l) (q := fun x => aheadB l x) (fun x h1 h2 => by
    simp only [aheadB_iff] at h1 h2; omega) ls
  unfold putLk
  simp only [List.length_append, List.length_cons, List.length_nil]
  omega

theorem putT_len (ls : List Th) (l : Th) : (putT ls l).length ≤ ls.length + 1 := by
  have h := filter_two (p := fun x => thingB x l) (q := fun x => thingB l x) (fun x h1 h2 => by
    simp only [thingB_iff] at h1 h2; omega) ls
  unfold putT
  simp only [List.length_append, List.length_cons, List.length_nil]
  omega

section
variable {w wr w' : World} {p B0 z : Nat} {a : Option Addr} {len cap : Nat} {N : Int} {v1 v2 : Value} {ls : List Lk} {ts : List Th}

end
end Go.Proofs.YtpiookjdeopmgaaDoor
