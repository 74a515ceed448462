/-
  impl.Before: its contract.
-/
import Derived.Test.YtlgjkigdfcpdkaaIKey
import Derived.Test.YtlgjkigdfcpdkaaIsIn
import Derived.Test.YtlgjkigdfcpdkaaBefS
import Derived.Test.YtlgjkigdfcpdkaaReg
namespace Go.Proofs.Ytlgjkigdfcpdkaa
open Go.RowKit

/-- a key of four numbers lies in block p -/
def KeyAt (W : World) (p : Nat) (a b c d : Int) : Prop := (W.cell? ⟨p, 0, none⟩ = some (.int .i64 a) ∧ W.cell? ⟨p, 1, none⟩ = some (.int .i64 b) ∧ W.cell? ⟨p, 2, none⟩ = some (.int .i64 c) ∧ W.cell? ⟨p, 3, none⟩ = some (.int .i64 d)) ∧ W.frozen? ⟨p, 0, none⟩ = false ∧ W.frozen? ⟨p, 1, none⟩ = false ∧ W.frozen? ⟨p, 2, none⟩ = false ∧ W.frozen? ⟨p, 3, none⟩ = false

theorem keyAt_new (X : World) : KeyAt (X.alloc (.cells #[.int .i64 0, .int .i64 0, .int .i64 0, .int .i64 0] 70)) X.heap.size 0 0 0 0 := by
  have h := heap_alloc_new X (.cells #[.int .i64 0, .int .i64 0, .int .i64 0, .int .i64 0] 70)
  exact ⟨⟨cells_at h 0, cells_at h 1, cells_at h 2, cells_at h 3⟩, frozen_at h 0, frozen_at h 1, frozen_at h 2, frozen_at h 3⟩

theorem KeyAt.lt {W : World} {p : Nat} {a b c d : Int} (h : KeyAt W p a b c d) : p < W.heap.size := World.block_lt_of_cell? W _ h.1.1

theorem KeyAt.below {W w2 : World} {p : Nat} {a b c d : Int} (h : KeyAt W p a b c d) (hb : Below W.heap.size W w2) : KeyAt w2 p a b c d := by
  have hp := h.lt
  obtain ⟨⟨h0, h1, h2, h3⟩, f0, f1, f2, f3⟩ := h
  refine ⟨⟨?_, ?_, ?_, ?_⟩, ?_, ?_, ?_, ?_⟩
  · rw [hb.cell (p := ⟨p, 0, none⟩) hp]; exact h0
  · rw [hb.cell (p := ⟨p, 1, none⟩) hp]; exact h1
  · rw [hb.cell (p := ⟨p, 2, none⟩) hp]; exact h2
  · rw [hb.cell (p := ⟨p, 3, none⟩) hp]; exact h3
  · rw [hb.frozen (p := ⟨p, 0, none⟩) hp]; exact f0
  · rw [hb.frozen (p := ⟨p, 1, none⟩) hp]; exact f1
  · rw [hb.frozen (p := ⟨p, 2, none⟩) hp]; exact f2
  · rw [hb.frozen (p := ⟨p, 3, none⟩) hp]; exact f3

theorem KeyAt.alloc {W : World} {p : Nat} {a b c d : Int} (h : KeyAt W p a b c d) (o : Obj) : KeyAt (W.alloc o) p a b c d := h.below ((Below.refl _ _).alloc (Nat.le_refl _) _)

def putKey (W : World) (p : Nat) (a b c d : Int) : World := (((W.setCell ⟨p, 0, none⟩ (.int .i64 a)).setCell ⟨p, 1, none⟩ (.int .i64 b)).setCell ⟨p, 2, none⟩ (.int .i64 c)).setCell ⟨p, 3, none⟩ (.int .i64 d)

theorem below_put {B p : Nat} {w W : World} (g : Below B w W) (hp : B ≤ p) (a b c d : Int) : Below B w (putKey W p a b c d) := by
  unfold putKey
  repeat (refine Below.setCell ?_ (by show B ≤ p; exact hp) _)
  exact g

theorem keyAt_put_ne {W : World} {p q : Nat} {k l m n : Int} (h : KeyAt W q k l m n) (hpq : p ≠ q) (a b c d : Int) : KeyAt (putKey W p a b c d) q k l m n := by
  have e : (putKey W p a b c d).heap[q]? = W.heap[q]? := by
    unfold putKey
    rw [heap_setCell_other _ ⟨p, 3, none⟩ _ _ (by show q ≠ p; omega), heap_setCell_other _ ⟨p, 2, none⟩ _ _ (by show q ≠ p; omega), heap_setCell_other _ ⟨p, 1, none⟩ _ _ (by show q ≠ p; omega), heap_setCell_other _ ⟨p, 0, none⟩ _ _ (by show q ≠ p; omega)]
  obtain ⟨⟨h0, h1, h2, h3⟩, f0, f1, f2, f3⟩ := h
  refine ⟨⟨?_, ?_, ?_, ?_⟩, ?_, ?_, ?_, ?_⟩
  · exact (World.cell?_of_block (w := W) (a := ⟨q, 0, none⟩) e).trans h0
  · exact (World.cell?_of_block (w := W) (a := ⟨q, 1, none⟩) e).trans h1
  · exact (World.cell?_of_block (w := W) (a := ⟨q, 2, none⟩) e).trans h2
  · exact (World.cell?_of_block (w := W) (a := ⟨q, 3, none⟩) e).trans h3
  · exact (World.frozen?_of_block (w := W) (a := ⟨q, 0, none⟩) e).trans f0
  · exact (World.frozen?_of_block (w := W) (a := ⟨q, 1, none⟩) e).trans f1
  · exact (World.frozen?_of_block (w := W) (a := ⟨q, 2, none⟩) e).trans f2
  · exact (World.frozen?_of_block (w := W) (a := ⟨q, 3, none⟩) e).trans f3

theorem keyAt_put {W : World} {p : Nat} {k l m n : Int} (h : KeyAt W p k l m n) (a b c d : Int) : KeyAt (putKey W p a b c d) p a b c d := by
  obtain ⟨⟨h0, h1, h2, h3⟩, f0, f1, f2, f3⟩ := h
  unfold putKey
  refine ⟨⟨?_, ?_, ?_, ?_⟩, ?_, ?_, ?_, ?_⟩ <;> go_simp

theorem KeyAt.same {W W' : World} {p : Nat} {a b c d : Int} (h : KeyAt W p a b c d) (e : W.heap = W'.heap) : KeyAt W' p a b c d := by
  unfold KeyAt World.cell? World.frozen? at *
  rw [← e]
  exact h

def befOps : Array Oper := #[{ dst := some 7, op := Go.Op.load 26 (Go.Operand.tmp 2), type := 26, pos := "l04_record.go:117", after := #[], guard := none }, { dst := some 8, op := Go.Op.call { callee := Go.Callee.value (Go.Operand.func 50), args := #[Go.Operand.tmp 7], argTypes := #[26] }, type := 70, pos := "l04_record.go:117", after := #[{ on := 0, ground := Go.Ground.data }], guard := none }, { dst := some 9, op := Go.Op.load 26 (Go.Operand.tmp 3), type := 26, pos := "l04_record.go:117", after := #[], guard := none }, { dst := some 10, op := Go.Op.call { callee := Go.Callee.value (Go.Operand.func 50), args := #[Go.Operand.tmp 9], argTypes := #[26] }, type := 70, pos := "l04_record.go:117", after := #[{ on := 2, ground := Go.Ground.data }, { on := 1, ground := Go.Ground.chain }], guard := none }, { dst := some 5, op := Go.Op.alloc 70, type := 0, pos := "l04_record.go:117", after := #[], guard := none }, { dst := some 6, op := Go.Op.alloc 70, type := 0, pos := "l04_record.go:117", after := #[], guard := none }, { dst := none, op := Go.Op.store 70 (Go.Operand.tmp 5) (Go.Operand.tmp 8), type := 0, pos := "l04_record.go:117", after := #[{ on := 4, ground := Go.Ground.data }, { on := 1, ground := Go.Ground.data }, { on := 3, ground := Go.Ground.chain }, { on := 0, ground := Go.Ground.phase }, { on := 1, ground := Go.Ground.phase }, { on := 2, ground := Go.Ground.textOnly Go.Departure.lateStores }, { on := 3, ground := Go.Ground.phase }, { on := 4, ground := Go.Ground.phase }, { on := 5, ground := Go.Ground.phase }], guard := none }, { dst := none, op := Go.Op.store 70 (Go.Operand.tmp 6) (Go.Operand.tmp 10), type := 0, pos := "l04_record.go:117", after := #[{ on := 5, ground := Go.Ground.data }, { on := 3, ground := Go.Ground.data }, { on := 6, ground := Go.Ground.chain }, { on := 0, ground := Go.Ground.phase }, { on := 1, ground := Go.Ground.phase }, { on := 2, ground := Go.Ground.phase }, { on := 3, ground := Go.Ground.phase }, { on := 4, ground := Go.Ground.phase }, { on := 5, ground := Go.Ground.phase }, { on := 6, ground := Go.Ground.phase }], guard := none }]

def befT (x y : RecD) (v1 v2 : Value) (b : Nat) (p5 p6 t8 t10 : Value) : Act := { tmps := #[.agg #[.int .i64 x.area, .int .i64 x.kind, .int .i64 x.owner, .int .i64 x.key, .int .i64 x.seq, v1, .int .i64 x.cost, .bool x.far], .agg #[.int .i64 y.area, .int .i64 y.kind, .int .i64 y.owner, .int .i64 y.key, .int .i64 y.seq, v2, .int .i64 y.cost, .bool y.far], .pointer (some ⟨b, 0, none⟩), .pointer (some ⟨b + 1, 0, none⟩), .bool false, p5, p6, .agg #[.int .i64 x.area, .int .i64 x.kind, .int .i64 x.owner, .int .i64 x.key, .int .i64 x.seq, v1, .int .i64 x.cost, .bool x.far], t8, .agg #[.int .i64 y.area, .int .i64 y.kind, .int .i64 y.owner, .int .i64 y.key, .int .i64 y.seq, v2, .int .i64 y.cost, .bool y.far], t10, undef, undef, undef, undef], defers := [] }

set_option maxRecDepth 100000 in
set_option maxHeartbeats 1000000 in
theorem bef_dag (x y : RecD) (v1 v2 : Value) (b n1 : Nat) (w1 : World) (Q : Exit → Act → World → Prop) (S : World → Prop) (ops : Array Oper) (hops : Hid (ops = befOps)) (hn1 : n1 ≤ w1.heap.size) (hS : ∀ W, Below n1 w1 W → S W)
    (hend : ∀ p q W, Below n1 w1 W → KeyAt W p x.area x.kind x.owner x.key → KeyAt W q y.area y.kind y.owner y.key → Q .normal (befT x y v1 v2 b (.pointer (some ⟨p, 0, none⟩)) (.pointer (some ⟨q, 0, none⟩)) (.agg #[.int .i64 x.area, .int .i64 x.kind, .int .i64 x.owner, .int .i64 x.key]) (.agg #[.int .i64 y.area, .int .i64 y.kind, .int .i64 y.owner, .int .i64 y.key])) W) :
    wpAnyH Try.prog .any ops Q S 6 #[true, false, true, false, false, false, false, false] (befT x y v1 v2 b undef undef undef undef) w1 := by
  have h2112 : ∀ (W : World) (p q : Nat), Below n1 w1 W → n1 ≤ W.heap.size → n1 ≤ p → KeyAt W p x.area x.kind x.owner x.key → n1 ≤ q → KeyAt W q y.area y.kind y.owner y.key → p ≠ q → wpAnyH Try.prog .any ops Q S 0 #[true, true, true, true, true, true, true, true] (befT x y v1 v2 b (.pointer (some ⟨p, 0, none⟩)) (.pointer (some ⟨q, 0, none⟩)) (.agg #[.int .i64 x.area, .int .i64 x.kind, .int .i64 x.owner, .int .i64 x.key]) (.agg #[.int .i64 y.area, .int .i64 y.kind, .int .i64 y.owner, .int .i64 y.key])) W := by
    intro W p q g hn hp kp hq kq hpq
    exact wpAnyH_done (by rw [hops.out]; kernel_rfl) (hend p q W g kp kq) _
  have h2111 : ∀ (W : World) (p q : Nat), Below n1 w1 W → n1 ≤ W.heap.size → n1 ≤ p → KeyAt W p x.area x.kind x.owner x.key → n1 ≤ q → KeyAt W q 0 0 0 0 → p ≠ q → wpAnyH Try.prog .any ops Q S 1 #[true, true, true, true, true, true, true, false] (befT x y v1 v2 b (.pointer (some ⟨p, 0, none⟩)) (.pointer (some ⟨q, 0, none⟩)) (.agg #[.int .i64 x.area, .int .i64 x.kind, .int .i64 x.owner, .int .i64 x.key]) (.agg #[.int .i64 y.area, .int .i64 y.kind, .int .i64 y.owner, .int .i64 y.key])) W := by
    intro W p q g hn hp kp hq kq hpq
    refine wpAnyH_ready (rs := [7]) (by rw [hops.out]; kernel_rfl) (by simp) ?_
    refine AllReadyH.cons (o := ?_) ?_ (fun K hK => ?_) ?_
    rotate_left 1
    · rw [hops.out]; unfold befOps; simp only [List.getElem?_toArray, List.getElem?_cons_succ, List.getElem?_cons_zero]; rfl
    · rw [if_pos (by rfl)]
      obtain ⟨⟨c0, c1, c2, c3⟩, f0, f1, f2, f3⟩ := kq
      have st := keyAt_put (W := W) (p := q) ⟨⟨c0, c1, c2, c3⟩, f0, f1, f2, f3⟩ y.area y.kind y.owner y.key
      have g2 := below_put (B := n1) g hq y.area y.kind y.owner y.key
      have ot := keyAt_put_ne kp hpq.symm y.area y.kind y.owner y.key
      have hn2 : n1 ≤ (putKey W q y.area y.kind y.owner y.key).heap.size := by simp [putKey]; omega
      unfold befT at hK ⊢
      go_simp
      refine hK.out _ _ (hS _ g2) (fun _ => ?_)
      exact h2112 _ p q g2 hn2 hp ot hq st hpq
    exact AllReadyH.nil
  have h2110 : ∀ (W : World) (p q : Nat), Below n1 w1 W → n1 ≤ W.heap.size → n1 ≤ p → KeyAt W p 0 0 0 0 → n1 ≤ q → KeyAt W q 0 0 0 0 → p ≠ q → wpAnyH Try.prog .any ops Q S 2 #[true, true, true, true, true, true, false, false] (befT x y v1 v2 b (.pointer (some ⟨p, 0, none⟩)) (.pointer (some ⟨q, 0, none⟩)) (.agg #[.int .i64 x.area, .int .i64 x.kind, .int .i64 x.owner, .int .i64 x.key]) (.agg #[.int .i64 y.area, .int .i64 y.kind, .int .i64 y.owner, .int .i64 y.key])) W := by
    intro W p q g hn hp kp hq kq hpq
    refine wpAnyH_ready (rs := [6]) (by rw [hops.out]; kernel_rfl) (by simp) ?_
    refine AllReadyH.cons (o := ?_) ?_ (fun K hK => ?_) ?_
    rotate_left 1
    · rw [hops.out]; unfold befOps; simp only [List.getElem?_toArray, List.getElem?_cons_succ, List.getElem?_cons_zero]; rfl
    · rw [if_pos (by rfl)]
      obtain ⟨⟨c0, c1, c2, c3⟩, f0, f1, f2, f3⟩ := kp
      have st := keyAt_put (W := W) (p := p) ⟨⟨c0, c1, c2, c3⟩, f0, f1, f2, f3⟩ x.area x.kind x.owner x.key
      have g2 := below_put (B := n1) g hp x.area x.kind x.owner x.key
      have ot := keyAt_put_ne kq hpq x.area x.kind x.owner x.key
      have hn2 : n1 ≤ (putKey W p x.area x.kind x.owner x.key).heap.size := by simp [putKey]; omega
      unfold befT at hK ⊢
      go_simp
      refine hK.out _ _ (hS _ g2) (fun _ => ?_)
      exact h2111 _ p q g2 hn2 hp st hq ot hpq
    exact AllReadyH.nil
  have h2100 : ∀ (W : World) (p q : Nat), Below n1 w1 W → n1 ≤ W.heap.size → n1 ≤ p → KeyAt W p 0 0 0 0 → wpAnyH Try.prog .any ops Q S 3 #[true, true, true, true, true, false, false, false] (befT x y v1 v2 b (.pointer (some ⟨p, 0, none⟩)) undef (.agg #[.int .i64 x.area, .int .i64 x.kind, .int .i64 x.owner, .int .i64 x.key]) (.agg #[.int .i64 y.area, .int .i64 y.kind, .int .i64 y.owner, .int .i64 y.key])) W := by
    intro W p q g hn hp kp
    refine wpAnyH_ready (rs := [5]) (by rw [hops.out]; kernel_rfl) (by simp) ?_
    refine AllReadyH.cons (o := ?_) ?_ (fun K hK => ?_) ?_
    rotate_left 1
    · rw [hops.out]; unfold befOps; simp only [List.getElem?_toArray, List.getElem?_cons_succ, List.getElem?_cons_zero]; rfl
    · rw [if_pos (by rfl)]
      unfold befT at hK ⊢
      go_simp
      have g2 : Below n1 w1 (W.alloc (.cells #[.int .i64 0, .int .i64 0, .int .i64 0, .int .i64 0] 70)) := g.alloc hn _
      refine hK.out _ _ (hS _ g2) (fun _ => ?_)
      exact h2110 _ p W.heap.size g2 (by simp; omega) hp (kp.alloc _) hn (keyAt_new W) (Nat.ne_of_lt kp.lt)
    exact AllReadyH.nil
  have h2010 : ∀ (W : World) (p q : Nat), Below n1 w1 W → n1 ≤ W.heap.size → n1 ≤ q → KeyAt W q 0 0 0 0 → wpAnyH Try.prog .any ops Q S 3 #[true, true, true, true, false, true, false, false] (befT x y v1 v2 b undef (.pointer (some ⟨q, 0, none⟩)) (.agg #[.int .i64 x.area, .int .i64 x.kind, .int .i64 x.owner, .int .i64 x.key]) (.agg #[.int .i64 y.area, .int .i64 y.kind, .int .i64 y.owner, .int .i64 y.key])) W := by
    intro W p q g hn hq kq
    refine wpAnyH_ready (rs := [4]) (by rw [hops.out]; kernel_rfl) (by simp) ?_
    refine AllReadyH.cons (o := ?_) ?_ (fun K hK => ?_) ?_
    rotate_left 1
    · rw [hops.out]; unfold befOps; simp only [List.getElem?_toArray, List.getElem?_cons_succ, List.getElem?_cons_zero]; rfl
    · rw [if_pos (by rfl)]
      unfold befT at hK ⊢
      go_simp
      have g2 : Below n1 w1 (W.alloc (.cells #[.int .i64 0, .int .i64 0, .int .i64 0, .int .i64 0] 70)) := g.alloc hn _
      refine hK.out _ _ (hS _ g2) (fun _ => ?_)
      exact h2110 _ W.heap.size q g2 (by simp; omega) hn (keyAt_new W) hq (kq.alloc _) (Nat.ne_of_gt kq.lt)
    exact AllReadyH.nil
  have h2000 : ∀ (W : World) (p q : Nat), Below n1 w1 W → n1 ≤ W.heap.size → wpAnyH Try.prog .any ops Q S 4 #[true, true, true, true, false, false, false, false] (befT x y v1 v2 b undef undef (.agg #[.int .i64 x.area, .int .i64 x.kind, .int .i64 x.owner, .int .i64 x.key]) (.agg #[.int .i64 y.area, .int .i64 y.kind, .int .i64 y.owner, .int .i64 y.key])) W := by
    intro W p q g hn
    refine wpAnyH_ready (rs := [4, 5]) (by rw [hops.out]; kernel_rfl) (by simp) ?_
    refine AllReadyH.cons (o := ?_) ?_ (fun K hK => ?_) ?_
    rotate_left 1
    · rw [hops.out]; unfold befOps; simp only [List.getElem?_toArray, List.getElem?_cons_succ, List.getElem?_cons_zero]; rfl
    · rw [if_pos (by rfl)]
      unfold befT at hK ⊢
      go_simp
      have g2 : Below n1 w1 (W.alloc (.cells #[.int .i64 0, .int .i64 0, .int .i64 0, .int .i64 0] 70)) := g.alloc hn _
      refine hK.out _ _ (hS _ g2) (fun _ => ?_)
      exact h2100 _ W.heap.size q g2 (by simp; omega) hn (keyAt_new W)
    refine AllReadyH.cons (o := ?_) ?_ (fun K hK => ?_) ?_
    rotate_left 1
    · rw [hops.out]; unfold befOps; simp only [List.getElem?_toArray, List.getElem?_cons_succ, List.getElem?_cons_zero]; rfl
    · rw [if_pos (by rfl)]
      unfold befT at hK ⊢
      go_simp
      have g2 : Below n1 w1 (W.alloc (.cells #[.int .i64 0, .int .i64 0, .int .i64 0, .int .i64 0] 70)) := g.alloc hn _
      refine hK.out _ _ (hS _ g2) (fun _ => ?_)
      exact h2010 _ p W.heap.size g2 (by simp; omega) hn (keyAt_new W)
    exact AllReadyH.nil
  have h1110 : ∀ (W : World) (p q : Nat), Below n1 w1 W → n1 ≤ W.heap.size → n1 ≤ p → KeyAt W p 0 0 0 0 → n1 ≤ q → KeyAt W q 0 0 0 0 → p ≠ q → wpAnyH Try.prog .any ops Q S 3 #[true, true, true, false, true, true, false, false] (befT x y v1 v2 b (.pointer (some ⟨p, 0, none⟩)) (.pointer (some ⟨q, 0, none⟩)) (.agg #[.int .i64 x.area, .int .i64 x.kind, .int .i64 x.owner, .int .i64 x.key]) undef) W := by
    intro W p q g hn hp kp hq kq hpq
    refine wpAnyH_ready (rs := [3]) (by rw [hops.out]; kernel_rfl) (by simp) ?_
    refine AllReadyH.cons (o := ?_) ?_ (fun K hK => ?_) ?_
    rotate_left 1
    · rw [hops.out]; unfold befOps; simp only [List.getElem?_toArray, List.getElem?_cons_succ, List.getElem?_cons_zero]; rfl
    · rw [if_pos (by rfl)]
      unfold befT at hK ⊢
      go_simp
      refine (keyOf_raw _ _ _ _ _ _ _ _ _).mono ?_
      rintro e w2 ⟨rfl, b2⟩
      have g2 : Below n1 w1 w2 := g.trans (b2.mono hn)
      have hn2 : n1 ≤ w2.heap.size := Nat.le_trans hn b2.size
      refine hK.out _ _ (hS _ g2) (fun _ => ?_)
      exact h2110 w2 p q g2 hn2 hp (kp.below b2) hq (kq.below b2) hpq
    exact AllReadyH.nil
  have h1100 : ∀ (W : World) (p q : Nat), Below n1 w1 W → n1 ≤ W.heap.size → n1 ≤ p → KeyAt W p 0 0 0 0 → wpAnyH Try.prog .any ops Q S 4 #[true, true, true, false, true, false, false, false] (befT x y v1 v2 b (.pointer (some ⟨p, 0, none⟩)) undef (.agg #[.int .i64 x.area, .int .i64 x.kind, .int .i64 x.owner, .int .i64 x.key]) undef) W := by
    intro W p q g hn hp kp
    refine wpAnyH_ready (rs := [3, 5]) (by rw [hops.out]; kernel_rfl) (by simp) ?_
    refine AllReadyH.cons (o := ?_) ?_ (fun K hK => ?_) ?_
    rotate_left 1
    · rw [hops.out]; unfold befOps; simp only [List.getElem?_toArray, List.getElem?_cons_succ, List.getElem?_cons_zero]; rfl
    · rw [if_pos (by rfl)]
      unfold befT at hK ⊢
      go_simp
      refine (keyOf_raw _ _ _ _ _ _ _ _ _).mono ?_
      rintro e w2 ⟨rfl, b2⟩
      have g2 : Below n1 w1 w2 := g.trans (b2.mono hn)
      have hn2 : n1 ≤ w2.heap.size := Nat.le_trans hn b2.size
      refine hK.out _ _ (hS _ g2) (fun _ => ?_)
      exact h2100 w2 p q g2 hn2 hp (kp.below b2)
    refine AllReadyH.cons (o := ?_) ?_ (fun K hK => ?_) ?_
    rotate_left 1
    · rw [hops.out]; unfold befOps; simp only [List.getElem?_toArray, List.getElem?_cons_succ, List.getElem?_cons_zero]; rfl
    · rw [if_pos (by rfl)]
      unfold befT at hK ⊢
      go_simp
      have g2 : Below n1 w1 (W.alloc (.cells #[.int .i64 0, .int .i64 0, .int .i64 0, .int .i64 0] 70)) := g.alloc hn _
      refine hK.out _ _ (hS _ g2) (fun _ => ?_)
      exact h1110 _ p W.heap.size g2 (by simp; omega) hp (kp.alloc _) hn (keyAt_new W) (Nat.ne_of_lt kp.lt)
    exact AllReadyH.nil
  have h1010 : ∀ (W : World) (p q : Nat), Below n1 w1 W → n1 ≤ W.heap.size → n1 ≤ q → KeyAt W q 0 0 0 0 → wpAnyH Try.prog .any ops Q S 4 #[true, true, true, false, false, true, false, false] (befT x y v1 v2 b undef (.pointer (some ⟨q, 0, none⟩)) (.agg #[.int .i64 x.area, .int .i64 x.kind, .int .i64 x.owner, .int .i64 x.key]) undef) W := by
    intro W p q g hn hq kq
    refine wpAnyH_ready (rs := [3, 4]) (by rw [hops.out]; kernel_rfl) (by simp) ?_
    refine AllReadyH.cons (o := ?_) ?_ (fun K hK => ?_) ?_
    rotate_left 1
    · rw [hops.out]; unfold befOps; simp only [List.getElem?_toArray, List.getElem?_cons_succ, List.getElem?_cons_zero]; rfl
    · rw [if_pos (by rfl)]
      unfold befT at hK ⊢
      go_simp
      refine (keyOf_raw _ _ _ _ _ _ _ _ _).mono ?_
      rintro e w2 ⟨rfl, b2⟩
      have g2 : Below n1 w1 w2 := g.trans (b2.mono hn)
      have hn2 : n1 ≤ w2.heap.size := Nat.le_trans hn b2.size
      refine hK.out _ _ (hS _ g2) (fun _ => ?_)
      exact h2010 w2 p q g2 hn2 hq (kq.below b2)
    refine AllReadyH.cons (o := ?_) ?_ (fun K hK => ?_) ?_
    rotate_left 1
    · rw [hops.out]; unfold befOps; simp only [List.getElem?_toArray, List.getElem?_cons_succ, List.getElem?_cons_zero]; rfl
    · rw [if_pos (by rfl)]
      unfold befT at hK ⊢
      go_simp
      have g2 : Below n1 w1 (W.alloc (.cells #[.int .i64 0, .int .i64 0, .int .i64 0, .int .i64 0] 70)) := g.alloc hn _
      refine hK.out _ _ (hS _ g2) (fun _ => ?_)
      exact h1110 _ W.heap.size q g2 (by simp; omega) hn (keyAt_new W) hq (kq.alloc _) (Nat.ne_of_gt kq.lt)
    exact AllReadyH.nil
  have h1000 : ∀ (W : World) (p q : Nat), Below n1 w1 W → n1 ≤ W.heap.size → wpAnyH Try.prog .any ops Q S 5 #[true, true, true, false, false, false, false, false] (befT x y v1 v2 b undef undef (.agg #[.int .i64 x.area, .int .i64 x.kind, .int .i64 x.owner, .int .i64 x.key]) undef) W := by
    intro W p q g hn
    refine wpAnyH_ready (rs := [3, 4, 5]) (by rw [hops.out]; kernel_rfl) (by simp) ?_
    refine AllReadyH.cons (o := ?_) ?_ (fun K hK => ?_) ?_
    rotate_left 1
    · rw [hops.out]; unfold befOps; simp only [List.getElem?_toArray, List.getElem?_cons_succ, List.getElem?_cons_zero]; rfl
    · rw [if_pos (by rfl)]
      unfold befT at hK ⊢
      go_simp
      refine (keyOf_raw _ _ _ _ _ _ _ _ _).mono ?_
      rintro e w2 ⟨rfl, b2⟩
      have g2 : Below n1 w1 w2 := g.trans (b2.mono hn)
      have hn2 : n1 ≤ w2.heap.size := Nat.le_trans hn b2.size
      refine hK.out _ _ (hS _ g2) (fun _ => ?_)
      exact h2000 w2 p q g2 hn2
    refine AllReadyH.cons (o := ?_) ?_ (fun K hK => ?_) ?_
    rotate_left 1
    · rw [hops.out]; unfold befOps; simp only [List.getElem?_toArray, List.getElem?_cons_succ, List.getElem?_cons_zero]; rfl
    · rw [if_pos (by rfl)]
      unfold befT at hK ⊢
      go_simp
      have g2 : Below n1 w1 (W.alloc (.cells #[.int .i64 0, .int .i64 0, .int .i64 0, .int .i64 0] 70)) := g.alloc hn _
      refine hK.out _ _ (hS _ g2) (fun _ => ?_)
      exact h1100 _ W.heap.size q g2 (by simp; omega) hn (keyAt_new W)
    refine AllReadyH.cons (o := ?_) ?_ (fun K hK => ?_) ?_
    rotate_left 1
    · rw [hops.out]; unfold befOps; simp only [List.getElem?_toArray, List.getElem?_cons_succ, List.getElem?_cons_zero]; rfl
    · rw [if_pos (by rfl)]
      unfold befT at hK ⊢
      go_simp
      have g2 : Below n1 w1 (W.alloc (.cells #[.int .i64 0, .int .i64 0, .int .i64 0, .int .i64 0] 70)) := g.alloc hn _
      refine hK.out _ _ (hS _ g2) (fun _ => ?_)
      exact h1010 _ p W.heap.size g2 (by simp; omega) hn (keyAt_new W)
    exact AllReadyH.nil
  have h0110 : ∀ (W : World) (p q : Nat), Below n1 w1 W → n1 ≤ W.heap.size → n1 ≤ p → KeyAt W p 0 0 0 0 → n1 ≤ q → KeyAt W q 0 0 0 0 → p ≠ q → wpAnyH Try.prog .any ops Q S 4 #[true, false, true, false, true, true, false, false] (befT x y v1 v2 b (.pointer (some ⟨p, 0, none⟩)) (.pointer (some ⟨q, 0, none⟩)) undef undef) W := by
    intro W p q g hn hp kp hq kq hpq
    refine wpAnyH_ready (rs := [1]) (by rw [hops.out]; kernel_rfl) (by simp) ?_
    refine AllReadyH.cons (o := ?_) ?_ (fun K hK => ?_) ?_
    rotate_left 1
    · rw [hops.out]; unfold befOps; simp only [List.getElem?_toArray, List.getElem?_cons_succ, List.getElem?_cons_zero]; rfl
    · rw [if_pos (by rfl)]
      unfold befT at hK ⊢
      go_simp
      refine (keyOf_raw _ _ _ _ _ _ _ _ _).mono ?_
      rintro e w2 ⟨rfl, b2⟩
      have g2 : Below n1 w1 w2 := g.trans (b2.mono hn)
      have hn2 : n1 ≤ w2.heap.size := Nat.le_trans hn b2.size
      refine hK.out _ _ (hS _ g2) (fun _ => ?_)
      exact h1110 w2 p q g2 hn2 hp (kp.below b2) hq (kq.below b2) hpq
    exact AllReadyH.nil
  have h0100 : ∀ (W : World) (p q : Nat), Below n1 w1 W → n1 ≤ W.heap.size → n1 ≤ p → KeyAt W p 0 0 0 0 → wpAnyH Try.prog .any ops Q S 5 #[true, false, true, false, true, false, false, false] (befT x y v1 v2 b (.pointer (some ⟨p, 0, none⟩)) undef undef undef) W := by
    intro W p q g hn hp kp
    refine wpAnyH_ready (rs := [1, 5]) (by rw [hops.out]; kernel_rfl) (by simp) ?_
    refine AllReadyH.cons (o := ?_) ?_ (fun K hK => ?_) ?_
    rotate_left 1
    · rw [hops.out]; unfold befOps; simp only [List.getElem?_toArray, List.getElem?_cons_succ, List.getElem?_cons_zero]; rfl
    · rw [if_pos (by rfl)]
      unfold befT at hK ⊢
      go_simp
      refine (keyOf_raw _ _ _ _ _ _ _ _ _).mono ?_
      rintro e w2 ⟨rfl, b2⟩
      have g2 : Below n1 w1 w2 := g.trans (b2.mono hn)
      have hn2 : n1 ≤ w2.heap.size := Nat.le_trans hn b2.size
      refine hK.out _ _ (hS _ g2) (fun _ => ?_)
      exact h1100 w2 p q g2 hn2 hp (kp.below b2)
    refine AllReadyH.cons (o := ?_) ?_ (fun K hK => ?_) ?_
    rotate_left 1
    · rw [hops.out]; unfold befOps; simp only [List.getElem?_toArray, List.getElem?_cons_succ, List.getElem?_cons_zero]; rfl
    · rw [if_pos (by rfl)]
      unfold befT at hK ⊢
      go_simp
      have g2 : Below n1 w1 (W.alloc (.cells #[.int .i64 0, .int .i64 0, .int .i64 0, .int .i64 0] 70)) := g.alloc hn _
      refine hK.out _ _ (hS _ g2) (fun _ => ?_)
      exact h0110 _ p W.heap.size g2 (by simp; omega) hp (kp.alloc _) hn (keyAt_new W) (Nat.ne_of_lt kp.lt)
    exact AllReadyH.nil
  have h0010 : ∀ (W : World) (p q : Nat), Below n1 w1 W → n1 ≤ W.heap.size → n1 ≤ q → KeyAt W q 0 0 0 0 → wpAnyH Try.prog .any ops Q S 5 #[true, false, true, false, false, true, false, false] (befT x y v1 v2 b undef (.pointer (some ⟨q, 0, none⟩)) undef undef) W := by
    intro W p q g hn hq kq
    refine wpAnyH_ready (rs := [1, 4]) (by rw [hops.out]; kernel_rfl) (by simp) ?_
    refine AllReadyH.cons (o := ?_) ?_ (fun K hK => ?_) ?_
    rotate_left 1
    · rw [hops.out]; unfold befOps; simp only [List.getElem?_toArray, List.getElem?_cons_succ, List.getElem?_cons_zero]; rfl
    · rw [if_pos (by rfl)]
      unfold befT at hK ⊢
      go_simp
      refine (keyOf_raw _ _ _ _ _ _ _ _ _).mono ?_
      rintro e w2 ⟨rfl, b2⟩
      have g2 : Below n1 w1 w2 := g.trans (b2.mono hn)
      have hn2 : n1 ≤ w2.heap.size := Nat.le_trans hn b2.size
      refine hK.out _ _ (hS _ g2) (fun _ => ?_)
      exact h1010 w2 p q g2 hn2 hq (kq.below b2)
    refine AllReadyH.cons (o := ?_) ?_ (fun K hK => ?_) ?_
    rotate_left 1
    · rw [hops.out]; unfold befOps; simp only [List.getElem?_toArray, List.getElem?_cons_succ, List.getElem?_cons_zero]; rfl
    · rw [if_pos (by rfl)]
      unfold befT at hK ⊢
      go_simp
      have g2 : Below n1 w1 (W.alloc (.cells #[.int .i64 0, .int .i64 0, .int .i64 0, .int .i64 0] 70)) := g.alloc hn _
      refine hK.out _ _ (hS _ g2) (fun _ => ?_)
      exact h0110 _ W.heap.size q g2 (by simp; omega) hn (keyAt_new W) hq (kq.alloc _) (Nat.ne_of_gt kq.lt)
    exact AllReadyH.nil
  have h0000 : ∀ (W : World) (p q : Nat), Below n1 w1 W → n1 ≤ W.heap.size → wpAnyH Try.prog .any ops Q S 6 #[true, false, true, false, false, false, false, false] (befT x y v1 v2 b undef undef undef undef) W := by
    intro W p q g hn
    refine wpAnyH_ready (rs := [1, 4, 5]) (by rw [hops.out]; kernel_rfl) (by simp) ?_
    refine AllReadyH.cons (o := ?_) ?_ (fun K hK => ?_) ?_
    rotate_left 1
    · rw [hops.out]; unfold befOps; simp only [List.getElem?_toArray, List.getElem?_cons_succ, List.getElem?_cons_zero]; rfl
    · rw [if_pos (by rfl)]
      unfold befT at hK ⊢
      go_simp
      refine (keyOf_raw _ _ _ _ _ _ _ _ _).mono ?_
      rintro e w2 ⟨rfl, b2⟩
      have g2 : Below n1 w1 w2 := g.trans (b2.mono hn)
      have hn2 : n1 ≤ w2.heap.size := Nat.le_trans hn b2.size
      refine hK.out _ _ (hS _ g2) (fun _ => ?_)
      exact h1000 w2 p q g2 hn2
    refine AllReadyH.cons (o := ?_) ?_ (fun K hK => ?_) ?_
    rotate_left 1
    · rw [hops.out]; unfold befOps; simp only [List.getElem?_toArray, List.getElem?_cons_succ, List.getElem?_cons_zero]; rfl
    · rw [if_pos (by rfl)]
      unfold befT at hK ⊢
      go_simp
      have g2 : Below n1 w1 (W.alloc (.cells #[.int .i64 0, .int .i64 0, .int .i64 0, .int .i64 0] 70)) := g.alloc hn _
      refine hK.out _ _ (hS _ g2) (fun _ => ?_)
      exact h0100 _ W.heap.size q g2 (by simp; omega) hn (keyAt_new W)
    refine AllReadyH.cons (o := ?_) ?_ (fun K hK => ?_) ?_
    rotate_left 1
    · rw [hops.out]; unfold befOps; simp only [List.getElem?_toArray, List.getElem?_cons_succ, List.getElem?_cons_zero]; rfl
    · rw [if_pos (by rfl)]
      unfold befT at hK ⊢
      go_simp
      have g2 : Below n1 w1 (W.alloc (.cells #[.int .i64 0, .int .i64 0, .int .i64 0, .int .i64 0] 70)) := g.alloc hn _
      refine hK.out _ _ (hS _ g2) (fun _ => ?_)
      exact h0010 _ p W.heap.size g2 (by simp; omega) hn (keyAt_new W)
    exact AllReadyH.nil
  exact h0000 w1 0 0 (Below.refl _ _) hn1
end Go.Proofs.Ytlgjkigdfcpdkaa
