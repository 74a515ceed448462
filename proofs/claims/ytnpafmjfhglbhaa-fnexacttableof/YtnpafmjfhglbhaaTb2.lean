/-
  What rows of structs and struct results want, of no function.
  Links and things as values; laws.toLink, toThing, eqLink, eqThing.
  Links and things in a row.
  cmp.Compare, cmp.Or, impl.orderOfLinks, impl.orderOfThings: their contracts.
  Nears (two numbers) as values and in rows; laws.toNear, eqNear, toNearS, eqNearS, szNearS.
  Records as values; laws.toRecord, eqRecord, szRecord.
  laws.markNearS, heldNearS, markRecord, heldRecord: only the row's own memory turns; what was marked is held.
  'append(out, x)' of a struct of four cells, out a row that the call itself made.
  Lists of records, each with a row of its own.
  Rows of ints that a call made.
-/
import Derived.Test.YtnpafmjfhglbhaaTb1
import Derived.OwnWalk
import Derived.Deep.QuietTactic
import Derived.BigQuiet
import Derived.Handy
import Derived.Deep.RegionHeld3
namespace Go.Proofs.Ytnpafmjfhglbhaa
open Go.RowKit

theorem ret_bool_no {p : Prop} [Decidable p] (h : ¬ p) : Ending.returned (.bool false) = .returned (.bool (decide p)) := by rw [decide_eq_false h]

theorem ret_bool_yes {p : Prop} [Decidable p] (h : p) : Ending.returned (.bool true) = .returned (.bool (decide p)) := by rw [decide_eq_true h]

theorem below_two {w : World} (o1 o2 : Obj) : Below w.heap.size w ((w.alloc o1).alloc o2) := ((Below.refl _ _).alloc (Nat.le_refl _) _).alloc (by simp) _

theorem below_three {w : World} (o1 o2 o3 : Obj) : Below w.heap.size w (((w.alloc o1).alloc o2).alloc o3) := (below_two o1 o2).alloc (by simp; omega) _

/-- 'make([]T, n)' of structs -/
theorem wpList_make_structs {α : Type} {enc : α → List Value} {sz : Nat} (hsz : ∀ a, (enc a).length = sz) (hpos : 0 < sz) {P : Program} (w : World) {ops : Array Oper} {rest : List Oper} {o : Oper} {a : Act} {Q : Exit → Act → World → Prop}
    (hg : o.guard = none) (l c : Operand) (t : TypeId) (hop : o.op = Op.makeSlice t l c) (base : Nat) (e : TypeId) (i : TypeInfo) (z : Value) (x : α) (hz : z.cells.toList = enc x)
    (h1 : P.underlying t = some (.slice e)) (h2 : P.info? e = some i) (h3 : i.zero = some z) (h4 : i.size = sz) (n : Nat) (hl : a.eval l = .int .i64 (n : Int)) (hc : a.eval c = .int .i64 (n : Int)) (b2 : i.bytes * n ≤ 281474976710656) (b3 : n ≤ maxLen) (b4 : base ≤ w.heap.size)
    (hK : ∀ w', w'.ownsRow base e sz (.slice (some ⟨w.heap.size, 0, none⟩) n n) n (flat enc (List.replicate n x)) → w.grownBy w' none → wpList P ops Q rest (a.put o.dst (.slice (some ⟨w.heap.size, 0, none⟩) n n)) w') :
    wpList P ops Q (o :: rest) a w :=
  wpList_make_full w hg l c t hop base e i z sz h1 h2 h3 h4 .i64 .i64 (n : Int) (n : Int) n hl hc rfl rfl b2 b3 b4 (fun w' k1 k2 => hK w' (by rw [← made_flat hsz z.cells x hz hpos]; exact k1) k2)

/-- k of them copied -/
def part {α : Type} (xs : List α) (z : α) (k : Nat) : List α := xs.take k ++ List.replicate (xs.length - k) z

theorem part_len {α : Type} (xs : List α) (z : α) (k : Nat) (h : k ≤ xs.length) : (part xs z k).length = xs.length := by simp [part]; omega

theorem part_step {α : Type} (xs : List α) (z x : α) (k : Nat) (h : xs[k]? = some x) : (part xs z k).set k x = part xs z (k + 1) := by
  obtain ⟨hk, e⟩ := List.getElem?_eq_some_iff.1 h
  unfold part
  rw [List.set_append_right _ _ (by simp; omega), List.length_take, Nat.min_eq_left (by omega), Nat.sub_self]
  have e2 : xs.length - k = (xs.length - (k + 1)) + 1 := by omega
  rw [e2, List.replicate_succ, List.set_cons_zero, List.take_succ_eq_append_getElem hk, e]
  simp

theorem part_all {α : Type} (xs : List α) (z : α) : part xs z xs.length = xs := by simp [part]

theorem ne_at {α : Type} {xs ys : List α} {k : Nat} {x y : α} (hx : xs[k]? = some x) (hy : ys[k]? = some y) (h : x ≠ y) : ¬ xs = ys := by
  rintro rfl
  rw [hx] at hy
  exact h (Option.some.inj hy)

theorem eq_all {α : Type} {xs ys : List α} (hl : xs.length = ys.length) (h : ∀ j, j < xs.length → xs[j]? = ys[j]?) : xs = ys := by
  apply List.ext_getElem?
  intro i
  by_cases hi : i < xs.length
  · exact h i hi
  · rw [List.getElem?_eq_none (by omega), List.getElem?_eq_none (by omega)]

theorem heap3_0 (w : World) (a b c : Obj) : (((w.alloc a).alloc b).alloc c).heap[w.heap.size]? = some a := by
  rw [Below.heap_alloc _ _ _ (by simp; omega), Below.heap_alloc _ _ _ (by simp), heap_alloc_new]

theorem heap3_1 (w : World) (a b c : Obj) : (((w.alloc a).alloc b).alloc c).heap[w.heap.size + 1]? = some b := by
  rw [Below.heap_alloc _ _ _ (by simp)]
  have := heap_alloc_new (w.alloc a) b
  simpa using this

theorem heap3_2 (w : World) (a b c : Obj) : (((w.alloc a).alloc b).alloc c).heap[w.heap.size + 1 + 1]? = some c := by
  have := heap_alloc_new ((w.alloc a).alloc b) c
  simpa using this

theorem ret_bool {a b : Bool} (h : b = a) : Ending.returned (.bool a) = .returned (.bool b) := by rw [h]
end Go.Proofs.Ytnpafmjfhglbhaa
namespace Go.Proofs.Ytnpafmjfhglbhaa
open Go.RowKit

structure Lk where
  a : Int
  b : Int
  c : Int
  r : Int
  deriving DecidableEq

structure Th where
  o : Int
  k : Int
  c : Int
  f : Bool
  deriving DecidableEq

def lkV (l : Lk) : Value := .agg #[.int .i64 l.a, .int .i64 l.b, .int .i64 l.c, .int .i64 l.r]

def thV (t : Th) : Value := .agg #[.int .i64 t.o, .int .i64 t.k, .int .i64 t.c, .bool t.f]

end Go.Proofs.Ytnpafmjfhglbhaa
namespace Go.Proofs.Ytnpafmjfhglbhaa
open Go.RowKit

def lkE (l : Lk) : List Value := [.int .i64 l.a, .int .i64 l.b, .int .i64 l.c, .int .i64 l.r]

def thE (t : Th) : List Value := [.int .i64 t.o, .int .i64 t.k, .int .i64 t.c, .bool t.f]

theorem lkE_len (l : Lk) : (lkE l).length = 4 := rfl

theorem thE_len (t : Th) : (thE t).length = 4 := rfl

def LinksAt (W : World) (v : Value) (ls : List Lk) (B : Nat) : Prop := StructsAt lkE 4 W v ls B

def ThingsAt (W : World) (v : Value) (ts : List Th) (B : Nat) : Prop := StructsAt thE 4 W v ts B

theorem LinksAt.then {W W' : World} {v : Value} {ls : List Lk} (h : LinksAt W v ls W.heap.size) (hb : Below W.heap.size W W') : LinksAt W' v ls W'.heap.size := RowAt.then h hb

theorem ThingsAt.then {W W' : World} {v : Value} {ls : List Th} (h : ThingsAt W v ls W.heap.size) (hb : Below W.heap.size W W') : ThingsAt W' v ls W'.heap.size := RowAt.then h hb

theorem LinksAt.shape {W : World} {v : Value} {ls : List Lk} {B : Nat} (h : LinksAt W v ls B) : ∃ a cap, v = .slice a ls.length cap := by obtain ⟨a, cap, h, _⟩ := h; exact ⟨a, cap, h⟩

theorem ThingsAt.shape {W : World} {v : Value} {ls : List Th} {B : Nat} (h : ThingsAt W v ls B) : ∃ a cap, v = .slice a ls.length cap := by obtain ⟨a, cap, h, _⟩ := h; exact ⟨a, cap, h⟩

/-- the four cells of link i -/
theorem LinksAt.cells {W : World} {v : Value} {ls : List Lk} {B : Nat} (h : LinksAt W v ls B) (i : Nat) (l : Lk) (hl : ls[i]? = some l) :
    ∃ b off cap, v = .slice (some ⟨b, off, none⟩) ls.length cap ∧ b < B ∧ W.cell? ⟨b, off + i * 4, none⟩ = some (.int .i64 l.a) ∧ W.cell? ⟨b, off + i * 4 + 1, none⟩ = some (.int .i64 l.b) ∧
      W.cell? ⟨b, off + i * 4 + 2, none⟩ = some (.int .i64 l.c) ∧ W.cell? ⟨b, off + i * 4 + 3, none⟩ = some (.int .i64 l.r) := by
  obtain ⟨b, off, cap, hv, hb, hc⟩ := StructsAt.cell h lkE_len i l hl
  exact ⟨b, off, cap, hv, hb, hc 0 _ rfl, hc 1 _ rfl, hc 2 _ rfl, hc 3 _ rfl⟩

/-- the four cells of thing i -/
theorem ThingsAt.cells {W : World} {v : Value} {ls : List Th} {B : Nat} (h : ThingsAt W v ls B) (i : Nat) (l : Th) (hl : ls[i]? = some l) :
    ∃ b off cap, v = .slice (some ⟨b, off, none⟩) ls.length cap ∧ b < B ∧ W.cell? ⟨b, off + i * 4, none⟩ = some (.int .i64 l.o) ∧ W.cell? ⟨b, off + i * 4 + 1, none⟩ = some (.int .i64 l.k) ∧
      W.cell? ⟨b, off + i * 4 + 2, none⟩ = some (.int .i64 l.c) ∧ W.cell? ⟨b, off + i * 4 + 3, none⟩ = some (.bool l.f) := by
  obtain ⟨b, off, cap, hv, hb, hc⟩ := StructsAt.cell h thE_len i l hl
  exact ⟨b, off, cap, hv, hb, hc 0 _ rfl, hc 1 _ rfl, hc 2 _ rfl, hc 3 _ rfl⟩
end Go.Proofs.Ytnpafmjfhglbhaa
namespace Go.Proofs.Ytnpafmjfhglbhaa
open Go.RowKit

/-- the first that is not 0 -/
def orN : List Int → Int
  | [] => 0
  | x :: xs => if x = 0 then orN xs else x

theorem orN_skip : ∀ (k : Nat) (l : List Int), (∀ j, j < k → l.getD j 0 = 0) → orN l = orN (l.drop k)
  | 0, l, _ => by simp
  | k + 1, [], _ => by simp
  | k + 1, x :: xs, h => by
    have h0 : x = 0 := by simpa using h 0 (by omega)
    subst h0
    have e : orN (0 :: xs) = orN xs := by simp [orN]
    rw [e, List.drop_succ_cons]
    exact orN_skip k xs (fun j hj => by simpa using h (j + 1) (by omega))

theorem orN_at {k : Nat} {l : List Int} (h : ∀ j, j < k → l.getD j 0 = 0) (hk : k < l.length) (hx : l.getD k 0 ≠ 0) : orN l = l.getD k 0 := by
  rw [orN_skip k l h, List.drop_eq_getElem_cons hk]
  have e : l.getD k 0 = l[k] := by simp [List.getElem?_eq_getElem hk]
  rw [e] at hx ⊢
  simp only [orN]
  rw [if_neg hx]

theorem orN_none {k : Nat} {l : List Int} (h : ∀ j, j < k → l.getD j 0 = 0) (hk : k = l.length) : orN l = 0 := by
  rw [orN_skip k l h, List.drop_of_length_le (by omega)]
  rfl

theorem new_cell (w1 : World) (cs : Array Value) (t : TypeId) (j : Nat) (v : Value) (h : cs[j]? = some v) : (w1.alloc (.cells cs t)).drew.cell? ⟨w1.heap.size, j, none⟩ = some v := by
  have := cells_at (heap_alloc_new w1 (.cells cs t)) j
  rw [h] at this
  exact this

def ordL (l m : Lk) : Int := orN [cmpN l.a m.a, cmpN l.b m.b, cmpN l.r m.r]

def ordT (l m : Th) : Int := orN [cmpN l.k m.k, cmpN l.o m.o]

end Go.Proofs.Ytnpafmjfhglbhaa
namespace Go.Proofs.Ytnpafmjfhglbhaa
open Go.RowKit

structure Nr where
  to : Int
  c : Int
  deriving DecidableEq

instance : Inhabited Nr := ⟨⟨0, 0⟩⟩

def nrV (l : Nr) : Value := .agg #[.int .i64 l.to, .int .i64 l.c]

def nrE (l : Nr) : List Value := [.int .i64 l.to, .int .i64 l.c]

theorem nrE_len (l : Nr) : (nrE l).length = 2 := rfl

def NearsAt (W : World) (v : Value) (ls : List Nr) (B : Nat) : Prop := StructsAt nrE 2 W v ls B

theorem NearsAt.then {W W' : World} {v : Value} {ls : List Nr} (h : NearsAt W v ls W.heap.size) (hb : Below W.heap.size W W') : NearsAt W' v ls W'.heap.size := RowAt.then h hb

theorem NearsAt.shape {W : World} {v : Value} {ls : List Nr} {B : Nat} (h : NearsAt W v ls B) : ∃ a cap, v = .slice a ls.length cap := by obtain ⟨a, cap, h, _⟩ := h; exact ⟨a, cap, h⟩

theorem NearsAt.cells {W : World} {v : Value} {ls : List Nr} {B : Nat} (h : NearsAt W v ls B) (i : Nat) (l : Nr) (hl : ls[i]? = some l) :
    ∃ b off cap, v = .slice (some ⟨b, off, none⟩) ls.length cap ∧ b < B ∧ W.cell? ⟨b, off + i * 2, none⟩ = some (.int .i64 l.to) ∧ W.cell? ⟨b, off + i * 2 + 1, none⟩ = some (.int .i64 l.c) := by
  obtain ⟨b, off, cap, hv, hb, hc⟩ := StructsAt.cell h nrE_len i l hl
  exact ⟨b, off, cap, hv, hb, hc 0 _ rfl, hc 1 _ rfl⟩

def nr0 : Nr := ⟨0, 0⟩

end Go.Proofs.Ytnpafmjfhglbhaa
namespace Go.Proofs.Ytnpafmjfhglbhaa
open Go.RowKit

structure RecD where
  area : Int
  kind : Int
  owner : Int
  key : Int
  seq : Int
  near : List Nr
  cost : Int
  far : Bool
  deriving DecidableEq

def recC (x : RecD) (v : Value) : Array Value := #[.int .i64 x.area, .int .i64 x.kind, .int .i64 x.owner, .int .i64 x.key, .int .i64 x.seq, v, .int .i64 x.cost, .bool x.far]

/-- the value v is the record x, whose row lies below B -/
def RecAt (W : World) (v : Value) (x : RecD) (B : Nat) : Prop := ∃ v1, v = .agg (recC x v1) ∧ NearsAt W v1 x.near B

theorem RecAt.then {W W' : World} {v : Value} {x : RecD} (h : RecAt W v x W.heap.size) (hb : Below W.heap.size W W') : RecAt W' v x W'.heap.size := by
  obtain ⟨v1, hv, h1⟩ := h
  exact ⟨v1, hv, h1.then hb⟩

def szR (q : Int) (n : Nat) : Int := if q - (n : Int) < 0 then -1 else q - (n : Int)

end Go.Proofs.Ytnpafmjfhglbhaa
namespace Go.Proofs.Ytnpafmjfhglbhaa
open Go.RowKit

def mk (q : Int) (i : Nat) : Nr := ⟨q + 2 * (i : Int), q + 2 * (i : Int) + 1⟩

def marks (q : Int) (n : Nat) : List Nr := (List.range n).map (mk q)

theorem marks_len (q : Int) (n : Nat) : (marks q n).length = n := by simp [marks]

theorem marks_all {q : Int} {n : Nat} {ys : List Nr} (hl : ys.length = n) (h : ∀ j, j < n → ys[j]? = some (mk q j)) : ys = marks q n := by
  apply List.ext_getElem?
  intro i
  by_cases hi : i < n
  · rw [h i hi]
    simp [marks, hi]
  · rw [List.getElem?_eq_none (by omega), List.getElem?_eq_none (by rw [marks_len]; omega)]

theorem owns_shapeS {w : World} {base size : Nat} {e : TypeId} {v : Value} {n : Nat} {xs : List Value} (h : w.ownsRow base e size v n xs) (hn : 0 < n) :
    ∃ g cap, v = .slice (some ⟨g, 0, none⟩) n cap ∧ base ≤ g ∧ g < w.heap.size := by
  rcases h.2 with ⟨_, h0⟩ | ⟨g, cap, cur, hv, hb, hg, _⟩
  · omega
  · exact ⟨g, cap, hv, hb, lt_of_heap hg⟩

theorem own_cell {w : World} {base size g cap : Nat} {e : TypeId} {n : Nat} {xs : List Value} (h : w.ownsRow base e size (.slice (some ⟨g, 0, none⟩) n cap) n xs) (j : Nat) (hj : j < n * size) : ∃ u, w.cell? ⟨g, j, none⟩ = some u := by
  rw [h.cellAt j hj]
  have hl : j < xs.length := by rw [h.1]; exact hj
  exact ⟨_, List.getElem?_eq_getElem hl⟩

theorem grown_refl (w : World) (r : Option Nat) : w.grownBy w r := ⟨rfl, rfl, rfl, Nat.le_refl _, fun _ _ _ => rfl⟩

theorem ret_int1 {a b : Int} (h : a = b) : Ending.returned (.int .i64 a) = .returned (.int .i64 b) := by rw [h]

end Go.Proofs.Ytnpafmjfhglbhaa
namespace Go.Proofs.Ytnpafmjfhglbhaa
open Go.RowKit

theorem flat_append {α : Type} {enc : α → List Value} (xs ys : List α) : flat enc (xs ++ ys) = flat enc xs ++ flat enc ys := by simp [flat]

theorem wpList_append_struct {α : Type} {enc : α → List Value} {sz bytes : Nat} (hlen : ∀ a, (enc a).length = sz) (hpos : 0 < sz) (hone : ∀ a, ∀ u ∈ enc a, u.oneCell' = true) (hbb : bytes ≤ 100) {P : Program} (w : World) {ops : Array Oper} {rest : List Oper} {o : Oper} {a : Act} {Q : Exit → Act → World → Prop} (hgd : o.guard = none) (s x : Operand) (t : TypeId)
    (ho : o.op = .call { callee := .builtin .append, args := #[s, x], argTypes := #[t, t] }) (base : Nat) (e : TypeId) (ht : P.underlying t = some (.slice e)) (zv : Value) (hzv : zv.cells.size = sz)
    (hinfo : (P.info? e).map (fun i => (i.zero, i.size, i.bytes)) = some (some zv, sz, bytes))
    (v : Value) (l : List α) (y : α) (hs : a.eval s = v) (hown : w.ownsRow base e sz v l.length (flat enc l))
    (ad : Addr) (c : Nat) (hx : a.eval x = .slice (some ad) 1 c) (hnews : ∀ j u, (enc y)[j]? = some u → w.cell? (ad.add j) = some u)
    (hl : l.length + 1 ≤ 1000000000) (hbase : base ≤ w.heap.size)
    (h : ∀ v' w' l', Hid (l' = l ++ [y]) → w'.ownsRow base e sz v' l'.length (flat enc l') → w.grownBy w' v.ownBlock → wpList P ops Q rest (a.put o.dst v') w') : wpList P ops Q (o :: rest) a w := by
  obtain ⟨i0, hi, hz0, hz1, hz2⟩ := info_parts hinfo
  refine wpList_append_own w hgd s x t ho base e i0 zv sz bytes ht hi hz0 hz1 hz2 hzv hpos v l.length (flat enc l) hs hown ad 1 c (enc y) hx (by rw [hlen]; omega) hnews (hone y) (by unfold maxLen; omega) ?_ hbase ?_
  · have : (l.length + 1) * bytes ≤ 1000000000 * 100 := Nat.mul_le_mul hl hbb
    omega
  · intro v' w' h1 h2 _
    have e1 : flat enc l ++ enc y = flat enc (l ++ [y]) := by rw [flat_append]; simp [flat]
    rw [e1] at h1
    exact h v' w' (l ++ [y]) rfl (by simpa using h1) h2

theorem news_struct {w : World} {cs : List Value} {t : TypeId} : ∀ (j : Nat) (u : Value), cs[j]? = some u → (w.alloc (.cells cs.toArray t)).cell? ((⟨w.heap.size, 0, none⟩ : Addr).add j) = some u := by
  intro j u hj
  have e : (⟨w.heap.size, 0, none⟩ : Addr).add j = ⟨w.heap.size, j, none⟩ := by
    simp only [Addr.add]
    split <;> simp_all
  rw [e, World.cell?_alloc_at _ _ _ _ rfl]
  simpa using hj
end Go.Proofs.Ytnpafmjfhglbhaa
namespace Go.Proofs.Ytnpafmjfhglbhaa
open Go.RowKit

/-- a record, and the value of its row -/
abbrev RP := RecD × Value

def encP (p : RP) : List Value := [.int .i64 p.1.area, .int .i64 p.1.kind, .int .i64 p.1.owner, .int .i64 p.1.key, .int .i64 p.1.seq, p.2, .int .i64 p.1.cost, .bool p.1.far]

theorem encP_len (p : RP) : (encP p).length = 8 := rfl

def zeroRD : RecD := ⟨0, 0, 0, 0, 0, [], 0, false⟩

def zP : RP := (zeroRD, .slice none 0 0)

/-- a list to read: its cells, and each record's row, below B -/
def RecsAt (W : World) (v : Value) (ps : List RP) (B : Nat) : Prop := StructsAt encP 8 W v ps B ∧ ∀ p ∈ ps, NearsAt W p.2 p.1.near B

theorem RecsAt.shape {W : World} {v : Value} {ps : List RP} {B : Nat} (h : RecsAt W v ps B) : ∃ a cap, v = .slice a ps.length cap := by
  obtain ⟨⟨a, cap, h, _⟩, _⟩ := h
  exact ⟨a, cap, h⟩

theorem RecsAt.later {W W' : World} {v : Value} {ps : List RP} {B C : Nat} (h : RecsAt W v ps B) (hb : Below C W W') (hBC : B ≤ C) : RecsAt W' v ps B :=
  ⟨RowAt.later h.1 hb hBC, fun p hp => RowAt.later (h.2 p hp) hb hBC⟩

theorem RecsAt.more {W : World} {v : Value} {ps : List RP} {B C : Nat} (h : RecsAt W v ps B) (hBC : B ≤ C) : RecsAt W v ps C :=
  ⟨RowAt.more h.1 hBC, fun p hp => RowAt.more (h.2 p hp) hBC⟩

theorem RecsAt.then {W W' : World} {v : Value} {ps : List RP} (h : RecsAt W v ps W.heap.size) (hb : Below W.heap.size W W') : RecsAt W' v ps W'.heap.size := (h.later hb (Nat.le_refl _)).more hb.size

theorem RecsAt.cells {W : World} {v : Value} {ps : List RP} {B : Nat} (h : RecsAt W v ps B) (i : Nat) (p : RP) (hp : ps[i]? = some p) :
    ∃ b off cap, v = .slice (some ⟨b, off, none⟩) ps.length cap ∧ b < B ∧ W.cell? ⟨b, off + i * 8, none⟩ = some (.int .i64 p.1.area) ∧ W.cell? ⟨b, off + i * 8 + 1, none⟩ = some (.int .i64 p.1.kind) ∧ W.cell? ⟨b, off + i * 8 + 2, none⟩ = some (.int .i64 p.1.owner) ∧ W.cell? ⟨b, off + i * 8 + 3, none⟩ = some (.int .i64 p.1.key) ∧ W.cell? ⟨b, off + i * 8 + 4, none⟩ = some (.int .i64 p.1.seq) ∧ W.cell? ⟨b, off + i * 8 + 5, none⟩ = some p.2 ∧ W.cell? ⟨b, off + i * 8 + 6, none⟩ = some (.int .i64 p.1.cost) ∧ W.cell? ⟨b, off + i * 8 + 7, none⟩ = some (.bool p.1.far) ∧ NearsAt W p.2 p.1.near B := by
  obtain ⟨b, off, cap, hv, hb, hc⟩ := StructsAt.cell h.1 encP_len i p hp
  exact ⟨b, off, cap, hv, hb, hc 0 _ rfl, hc 1 _ rfl, hc 2 _ rfl, hc 3 _ rfl, hc 4 _ rfl, hc 5 _ rfl, hc 6 _ rfl, hc 7 _ rfl, h.2 p (List.mem_of_getElem? hp)⟩

def Apart (p q : RP) : Prop := ∀ k, p.2.ownBlock = some k → q.2.ownBlock ≠ some k

theorem owns_keepB {W W' : World} {base size : Nat} {e : TypeId} {v : Value} {n : Nat} {xs : List Value} (h : W.ownsRow base e size v n xs) (hk : ∀ k, v.ownBlock = some k → W'.heap[k]? = W.heap[k]?) : W'.ownsRow base e size v n xs := by
  refine ⟨h.1, ?_⟩
  rcases h.2 with h2 | ⟨g, cap, cur, hv, hg, hh, r⟩
  · exact .inl h2
  · exact .inr ⟨g, cap, cur, hv, hg, by rw [hk g (by rw [hv]; rfl)]; exact hh, r⟩

theorem owns_up {W : World} {base b2 size : Nat} {e : TypeId} {v : Value} {n : Nat} {xs : List Value} (h : W.ownsRow base e size v n xs) (hk : ∀ k, v.ownBlock = some k → b2 ≤ k) : W.ownsRow b2 e size v n xs := by
  refine ⟨h.1, ?_⟩
  rcases h.2 with h2 | ⟨g, cap, cur, hv, hg, r⟩
  · exact .inl h2
  · exact .inr ⟨g, cap, cur, hv, hk g (by rw [hv]; rfl), r⟩

/-- what a marking leaves: only blocks of lo .. hi turn -/
structure Frame (lo hi : Nat) (w w' : World) : Prop where
  os : w'.os = w.os
  tape : w'.tape = w.tape
  output : w'.output = w.output
  size : w.heap.size ≤ w'.heap.size
  block : ∀ k, k < w.heap.size → (k < lo ∨ hi ≤ k) → w'.heap[k]? = w.heap[k]?

theorem Frame.refl (lo hi : Nat) (w : World) : Frame lo hi w w := ⟨rfl, rfl, rfl, Nat.le_refl _, fun _ _ _ => rfl⟩

theorem Frame.trans {lo hi : Nat} {a b c : World} (h : Frame lo hi a b) (k : Frame lo hi b c) : Frame lo hi a c :=
  ⟨k.os.trans h.os, k.tape.trans h.tape, k.output.trans h.output, Nat.le_trans h.size k.size, fun i hi hr => (k.block i (Nat.lt_of_lt_of_le hi h.size) hr).trans (h.block i hi hr)⟩

theorem Frame.grown {lo hi : Nat} {a b : World} {row : Option Nat} (g : a.grownBy b row) (hr : ∀ k, row = some k → lo ≤ k ∧ k < hi) : Frame lo hi a b :=
  ⟨g.os, g.tape, g.output, g.size, fun k hk hh => g.block k hk (fun e => by have := hr k e.symm; omega)⟩

theorem Frame.set {lo hi : Nat} (w : World) (p j : Nat) (u : Value) (h1 : lo ≤ p) (h2 : p < hi) : Frame lo hi w (w.setCell ⟨p, j, none⟩ u) := Frame.grown (grown_set w p j u) (fun k e => by simp at e; omega)

theorem Frame.below {lo hi : Nat} {w w' : World} (h : Frame lo hi w w') (hw : lo ≤ w.heap.size) : Below lo w w' := (Below.refl _ _).trans ⟨h.os, h.tape, h.output, h.size, fun k hk => h.block k (by omega) (.inl hk)⟩

/-- eight cells laid at o of block g -/
abbrev putP (W : World) (g o : Nat) (p : RP) : World := (((((((W.setCell ⟨g, o, none⟩ (.int .i64 p.1.area)).setCell ⟨g, o + 1, none⟩ (.int .i64 p.1.kind)).setCell ⟨g, o + 2, none⟩ (.int .i64 p.1.owner)).setCell ⟨g, o + 3, none⟩ (.int .i64 p.1.key)).setCell ⟨g, o + 4, none⟩ (.int .i64 p.1.seq)).setCell ⟨g, o + 5, none⟩ p.2).setCell ⟨g, o + 6, none⟩ (.int .i64 p.1.cost)).setCell ⟨g, o + 7, none⟩ (.bool p.1.far)

theorem putP_grown (W : World) (g o : Nat) (p : RP) : W.grownBy (putP W g o p) (some g) :=
  grown_trans (grown_trans (grown_trans (grown_trans (grown_trans (grown_trans (grown_trans (grown_set W g _ _) (grown_set _ g _ _)) (grown_set _ g _ _)) (grown_set _ g _ _)) (grown_set _ g _ _)) (grown_set _ g _ _)) (grown_set _ g _ _)) (grown_set _ g _ _)

/-- how many numbers a list has -/
def tot (ps : List RP) : Nat := (ps.map (fun p => 1 + p.1.near.length)).sum

theorem tot_cons (p : RP) (ps : List RP) : tot (p :: ps) = 1 + p.1.near.length + tot ps := by simp [tot]

theorem tot_append (a b : List RP) : tot (a ++ b) = tot a + tot b := by simp [tot]

theorem tot_len (ps : List RP) : ps.length ≤ tot ps := by
  induction ps with
  | nil => simp [tot]
  | cons p ps ih => rw [tot_cons, List.length_cons]; omega

theorem tot_mem {ps : List RP} {p : RP} (h : p ∈ ps) : p.1.near.length ≤ tot ps := by
  induction ps with
  | nil => simp at h
  | cons q ps ih =>
    rw [tot_cons]
    rcases List.mem_cons.1 h with rfl | h1
    · omega
    · have := ih h1; omega

theorem tot_map {ps qs : List RP} (h : ps.map (·.1) = qs.map (·.1)) : tot ps = tot qs := by
  have e : ∀ l : List RP, tot l = ((l.map (·.1)).map (fun x => 1 + x.near.length)).sum := fun l => by simp [tot, List.map_map, Function.comp_def]
  rw [e, e, h]

theorem tot_take {ps : List RP} {k : Nat} {p : RP} (h : ps[k]? = some p) : tot (ps.take (k + 1)) = tot (ps.take k) + (1 + p.1.near.length) := by
  obtain ⟨hk, e⟩ := List.getElem?_eq_some_iff.1 h
  rw [List.take_succ_eq_append_getElem hk, tot_append, e]
  simp [tot]

theorem map_take {ps : List RP} {k : Nat} {p : RP} (h : ps[k]? = some p) : (ps.take (k + 1)).map (·.1) = (ps.take k).map (·.1) ++ [p.1] := by
  obtain ⟨hk, e⟩ := List.getElem?_eq_some_iff.1 h
  rw [List.take_succ_eq_append_getElem hk, List.map_append, e]
  rfl
end Go.Proofs.Ytnpafmjfhglbhaa
namespace Go.Proofs.Ytnpafmjfhglbhaa
open Go.RowKit

def intsOf (l : List Int) : List Value := l.map fun z => Value.int .i64 z

theorem intsOf_length (l : List Int) : (intsOf l).length = l.length := by simp [intsOf]

theorem intsOf_append (a b : List Int) : intsOf (a ++ b) = intsOf a ++ intsOf b := by simp [intsOf]

theorem Try.info3 : (Try.prog.info? 3).map (fun i => (i.zero, i.size, i.bytes)) = some (some (.int .i64 0), 1, 8) := by kernel_rfl

/-- 'append(out, z)' of an int, out a row that the call itself made. -/
theorem wpList_append_int {P : Program} (w : World) {ops : Array Oper} {rest : List Oper} {o : Oper} {a : Act} {Q : Exit → Act → World → Prop} (hgd : o.guard = none) (s x : Operand) (t : TypeId)
    (ho : o.op = .call { callee := .builtin .append, args := #[s, x], argTypes := #[t, t] }) (base : Nat) (e : TypeId) (ht : P.underlying t = some (.slice e))
    (hinfo : (P.info? e).map (fun i => (i.zero, i.size, i.bytes)) = some (some (.int .i64 0), 1, 8))
    (v : Value) (l : List Int) (z : Int) (hs : a.eval s = v) (hown : w.ownsRow base e 1 v l.length (intsOf l))
    (ad : Addr) (c : Nat) (hx : a.eval x = .slice (some ad) 1 c) (hnews : w.cell? (ad.add 0) = some (.int .i64 z))
    (hlen : l.length + 1 ≤ 1000000000) (hbase : base ≤ w.heap.size)
    (h : ∀ v' w' l', Hid (l' = l ++ [z]) → w'.ownsRow base e 1 v' l'.length (intsOf l') → w.grownBy w' v.ownBlock → wpList P ops Q rest (a.put o.dst v') w') : wpList P ops Q (o :: rest) a w := by
  obtain ⟨i0, hi, hz0, hz1, hz2⟩ := info_parts hinfo
  refine wpList_append_own w hgd s x t ho base e i0 (.int .i64 0) 1 8 ht hi hz0 hz1 hz2 rfl (by decide) v l.length (intsOf l) hs hown ad 1 c (intsOf [z]) hx (by simp [intsOf]) ?_ ?_ (by unfold maxLen; omega) (by omega) hbase ?_
  · intro j u hj
    have hj' : j = 0 := by have := (List.getElem?_eq_some_iff.1 hj).1; simp [intsOf] at this; omega
    subst hj'
    rw [hnews]
    simpa [intsOf] using hj
  · intro u hu
    simp only [intsOf, List.mem_map] at hu
    obtain ⟨b, _, rfl⟩ := hu
    rfl
  · intro v' w' h1 h2 _
    rw [← intsOf_append] at h1
    exact h v' w' (l ++ [z]) rfl (by simpa using h1) h2
end Go.Proofs.Ytnpafmjfhglbhaa
