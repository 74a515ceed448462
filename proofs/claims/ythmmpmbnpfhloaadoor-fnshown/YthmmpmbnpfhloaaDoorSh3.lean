/-
  Links and things as values; laws.toLink, toThing, eqLink, eqThing.
  Nears (two numbers) as values and in rows; laws.toNear, eqNear, toNearS, eqNearS, szNearS.
  'append(out, x)' of a struct of four cells, out a row that the call itself made.
  laws.eqIntS, markIntS, heldIntS, toIntS, szIntS: their contracts (IntRow2 without nets).
  A cursor over the bytes of a draw: spec.l01New, l01Once, l01PickInt; laws.big.
  Links and things in a row.
  Records as values; laws.toRecord, eqRecord, szRecord.
  Ways as values; laws.szWay, toWay, eqWay.
-/
import Derived.Test.YthmmpmbnpfhloaaDoorSh2
namespace Go.Proofs.YthmmpmbnpfhloaaDoor
open Go.RowKit

structure Lk where
  a : Int
  b : Int
  c : Int
  r : Int
  deriving DecidableEq

structure Th where
  o : Int
  k : Int
  c : Int
  f : Bool
  deriving DecidableEq

def lkV (l : Lk) : Value := .agg #[.int .i64 l.a, .int .i64 l.b, .int .i64 l.c, .int .i64 l.r]

def thV (t : Th) : Value := .agg #[.int .i64 t.o, .int .i64 t.k, .int .i64 t.c, .bool t.f]

end Go.Proofs.YthmmpmbnpfhloaaDoor
namespace Go.Proofs.YthmmpmbnpfhloaaDoor
open Go.RowKit

structure Nr where
  to : Int
  c : Int
  deriving DecidableEq

instance : Inhabited Nr := ⟨⟨0, 0⟩⟩

def nrV (l : Nr) : Value := .agg #[.int .i64 l.to, .int .i64 l.c]

def nrE (l : Nr) : List Value := [.int .i64 l.to, .int .i64 l.c]

theorem nrE_len (l : Nr) : (nrE l).length = 2 := rfl

def NearsAt (W : World) (v : Value) (ls : List Nr) (B : Nat) : Prop := StructsAt nrE 2 W v ls B

theorem NearsAt.then {W W' : World} {v : Value} {ls : List Nr} (h : NearsAt W v ls W.heap.size) (hb : Below W.heap.size W W') : NearsAt W' v ls W'.heap.size := RowAt.then h hb

theorem NearsAt.shape {W : World} {v : Value} {ls : List Nr} {B : Nat} (h : NearsAt W v ls B) : ∃ a cap, v = .slice a ls.length cap := by obtain ⟨a, cap, h, _⟩ := h; exact ⟨a, cap, h⟩

theorem NearsAt.cells {W : World} {v : Value} {ls : List Nr} {B : Nat} (h : NearsAt W v ls B) (i : Nat) (l : Nr) (hl : ls[i]? = some l) :
    ∃ b off cap, v = .slice (some ⟨b, off, none⟩) ls.length cap ∧ b < B ∧ W.cell? ⟨b, off + i * 2, none⟩ = some (.int .i64 l.to) ∧ W.cell? ⟨b, off + i * 2 + 1, none⟩ = some (.int .i64 l.c) := by
  obtain ⟨b, off, cap, hv, hb, hc⟩ := StructsAt.cell h nrE_len i l hl
  exact ⟨b, off, cap, hv, hb, hc 0 _ rfl, hc 1 _ rfl⟩

def nr0 : Nr := ⟨0, 0⟩

theorem Tryd.infoNr : (Tryd.prog.info? 84).map (fun i => (i.zero, i.size, i.bytes)) = some (some (nrV nr0), 2, 16) := by kernel_rfl

end Go.Proofs.YthmmpmbnpfhloaaDoor
namespace Go.Proofs.YthmmpmbnpfhloaaDoor
open Go.RowKit

theorem flat_append {α : Type} {enc : α → List Value} (xs ys : List α) : flat enc (xs ++ ys) = flat enc xs ++ flat enc ys := by simp [flat]

theorem wpList_append_struct {α : Type} {enc : α → List Value} {sz bytes : Nat} (hlen : ∀ a, (enc a).length = sz) (hpos : 0 < sz) (hone : ∀ a, ∀ u ∈ enc a, u.oneCell' = true) (hbb : bytes ≤ 100) {P : Program} (w : World) {ops : Array Oper} {rest : List Oper} {o : Oper} {a : Act} {Q : Exit → Act → World → Prop} (hgd : o.guard = none) (s x : Operand) (t : TypeId)
    (ho : o.op = .call { callee := .builtin .append, args := #[s, x], argTypes := #[t, t] }) (base : Nat) (e : TypeId) (ht : P.underlying t = some (.slice e)) (zv : Value) (hzv : zv.cells.size = sz)
    (hinfo : (P.info? e).map (fun i => (i.zero, i.size, i.bytes)) = some (some zv, sz, bytes))
    (v : Value) (l : List α) (y : α) (hs : a.eval s = v) (hown : w.ownsRow base e sz v l.length (flat enc l))
    (ad : Addr) (c : Nat) (hx : a.eval x = .slice (some ad) 1 c) (hnews : ∀ j u, (enc y)[j]? = some u → w.cell? (ad.add j) = some u)
    (hl : l.length + 1 ≤ 1000000000) (hbase : base ≤ w.heap.size)
    (h : ∀ v' w' l', Hid (l' = l ++ [y]) → w'.ownsRow base e sz v' l'.length (flat enc l') → w.grownBy w' v.ownBlock → wpList P ops Q rest (a.put o.dst v') w') : wpList P ops Q (o :: rest) a w := by
  obtain ⟨i0, hi, hz0, hz1, hz2⟩ := info_parts hinfo
  refine wpList_append_own w hgd s x t ho base e i0 zv sz bytes ht hi hz0 hz1 hz2 hzv hpos v l.length (flat enc l) hs hown ad 1 c (enc y) hx (by rw [hlen]; omega) hnews (hone y) (by unfold maxLen; omega) ?_ hbase ?_
  · have : (l.length + 1) * bytes ≤ 1000000000 * 100 := Nat.mul_le_mul hl hbb
    omega
  · intro v' w' h1 h2 _
    have e1 : flat enc l ++ enc y = flat enc (l ++ [y]) := by rw [flat_append]; simp [flat]
    rw [e1] at h1
    exact h v' w' (l ++ [y]) rfl (by simpa using h1) h2

theorem news_struct {w : World} {cs : List Value} {t : TypeId} : ∀ (j : Nat) (u : Value), cs[j]? = some u → (w.alloc (.cells cs.toArray t)).cell? ((⟨w.heap.size, 0, none⟩ : Addr).add j) = some u := by
  intro j u hj
  have e : (⟨w.heap.size, 0, none⟩ : Addr).add j = ⟨w.heap.size, j, none⟩ := by
    simp only [Addr.add]
    split <;> simp_all
  rw [e, World.cell?_alloc_at _ _ _ _ rfl]
  simpa using hj
end Go.Proofs.YthmmpmbnpfhloaaDoor
namespace Go.Proofs.YthmmpmbnpfhloaaDoor
open Go.RowKit

/-- cells of numbers, as rows of structs of one cell -/
def intE (z : Int) : List Value := [.int .i64 z]

theorem intE_len (z : Int) : (intE z).length = 1 := rfl

theorem flat_int (l : List Int) : flat intE l = intsOf l := by
  induction l with
  | nil => rfl
  | cons x l ih => rw [flat_cons, ih]; rfl

def HopsAt (W : World) (v : Value) (l : List Int) (B : Nat) : Prop := StructsAt intE 1 W v l B

theorem HopsAt.then {W W' : World} {v : Value} {l : List Int} (h : HopsAt W v l W.heap.size) (hb : Below W.heap.size W W') : HopsAt W' v l W'.heap.size := RowAt.then h hb

theorem HopsAt.shape {W : World} {v : Value} {l : List Int} {B : Nat} (h : HopsAt W v l B) : ∃ a cap, v = .slice a l.length cap := by obtain ⟨a, cap, h, _⟩ := h; exact ⟨a, cap, h⟩

theorem HopsAt.cell {W : World} {v : Value} {l : List Int} {B : Nat} (h : HopsAt W v l B) (i : Nat) (z : Int) (hz : l[i]? = some z) : ∃ b off cap, v = .slice (some ⟨b, off, none⟩) l.length cap ∧ b < B ∧ W.cell? ⟨b, off + i, none⟩ = some (.int .i64 z) := by
  obtain ⟨b, off, cap, hv, hb, hc⟩ := StructsAt.cell h intE_len i z hz
  exact ⟨b, off, cap, hv, hb, by have := hc 0 _ rfl; simpa using this⟩

theorem hops_of {W : World} {base : Nat} {v : Value} {l : List Int} (h : W.ownsRow base 3 1 v l.length (flat intE l)) : HopsAt W v l W.heap.size := owns_rowAt h

end Go.Proofs.YthmmpmbnpfhloaaDoor
namespace Go.Proofs.YthmmpmbnpfhloaaDoor
open Go.RowKit

set_option maxRecDepth 100000 in
set_option maxHeartbeats 1000000 in
theorem new_any (a : Option Addr) (len cap : Nat) (w : World) (hc : Code w a len w.heap.size) :
    Calls Tryd.prog 9 #[.slice a len cap] w fun e w' => e = .returned (.pointer (some ⟨w.heap.size, 0, none⟩)) ∧ Cur w' w.heap.size a len cap ∧ Below w.heap.size w w' := by
  have hlen := hc.1
  have HC := hide hc
  clear hc
  have fin : ∀ h : Int, Cur (w.alloc (.cells #[.slice a len cap, .int .i64 0, .int .i64 h] 41)) w.heap.size a len cap := fun h =>
    ⟨⟨0, h, by omega, heap_alloc_new w _⟩, HC.out.grown (row := none) ⟨rfl, rfl, rfl, by simp, fun k hk _ => Below.heap_alloc _ _ _ hk⟩ (fun b _ => by simp)⟩
  have FIN := hide fin
  clear fin
  by_cases h0 : len = 0
  · subst h0
    go_enter Tryd.func9, Tryd.ntmps9
    go_wp2
    refine wp_loop_rounds 1 ?_
    rw [rounds_succ]
    go_wp2
    go_ret
    exact ⟨rfl, FIN.out _, (Below.refl _ _).alloc (Nat.le_refl _) _⟩
  · obtain ⟨b, off, ha, hb, hx⟩ : ∃ b off, a = some ⟨b, off, none⟩ ∧ b < w.heap.size ∧ ∀ i, i < len → ∃ x : Nat, x < 256 ∧ w.cell? ⟨b, off + i, none⟩ = some (.int .u8 (x : Int)) := by
      rcases HC.out.2 with h | h
      · exact absurd h h0
      · exact h
    subst ha
    have HX := hide hx
    clear hx
    go_enter Tryd.func9, Tryd.ntmps9
    go_wp2
    go_loop [3, 4] (fun h i => ∃ (k : Nat) (z : Int), k ≤ len ∧ i = .int .i64 k ∧ h = .int .i64 z) (fun _ i => len - (intOf i).toNat)
    case atStart => exact ⟨0, _, by omega, rfl, rfl⟩
    case round =>
      obtain ⟨k, z, hk, rfl, rfl⟩ := hrel
      by_cases hlt : k < len
      · obtain ⟨x, hx1, hx2⟩ := HX.out k hlt
        have hki : (k : Int) < (len : Int) := by omega
        by_cases h4 : (k : Int) < 4000
        · go_wp2
          go_round
          case rel => exact ⟨k + 1, _, by omega, by go_num, rfl⟩
          case measure => simp [intOf]; omega
        · go_wp2
          go_ret
          exact ⟨rfl, FIN.out _, (Below.refl _ _).alloc (Nat.le_refl _) _⟩
      · go_wp2
        go_ret
        exact ⟨rfl, FIN.out _, (Below.refl _ _).alloc (Nat.le_refl _) _⟩

theorem cur_alloc {w : World} {p : Nat} {a : Option Addr} {len cap : Nat} (h : Cur w p a len cap) (o : Obj) : Cur (w.alloc o) p a len cap :=
  h.grown (row := none) ⟨rfl, rfl, rfl, by simp, fun k hk _ => Below.heap_alloc _ _ _ hk⟩ (fun b _ => by simp)

set_option maxHeartbeats 400000 in
theorem big_any (a : Option Addr) (len cap : Nat) (w : World) : Calls Tryd.prog 4 #[.slice a len cap] w fun e w' => e = .returned (.bool (decide ((1048576 : Int) < (len : Int)))) ∧ w = w' := by
  go_enter Tryd.func4, Tryd.ntmps4
  go_wp2
  go_ret
  exact ⟨rfl, rfl⟩

theorem code_later {w w' : World} {a : Option Addr} {len : Nat} (h : Code w a len w.heap.size) (hb : Below w.heap.size w w') : Code w' a len w'.heap.size := by
  refine ⟨h.1, ?_⟩
  rcases h.2 with h0 | ⟨b, off, ha, hb1, hx⟩
  · exact .inl h0
  · refine .inr ⟨b, off, ha, by have := hb.size; omega, fun i hi => ?_⟩
    obtain ⟨x, h1, h2⟩ := hx i hi
    exact ⟨x, h1, by rw [hb.cell (p := ⟨b, off + i, none⟩) hb1]; exact h2⟩

set_option maxRecDepth 100000 in
set_option maxHeartbeats 1000000 in
theorem once_any (p : Nat) (a : Option Addr) (len cap : Nat) (n : Int) (w : World) (hc : Cur w p a len cap) (hn : 0 < n) (hn2 : n ≤ 1000000000000) :
    Calls Tryd.prog 18 #[.pointer (some ⟨p, 0, none⟩), .int .i64 n] w fun e w' => ∃ x : Bool, e = .returned (.bool x) ∧ Cur w' p a len cap ∧ w.grownBy w' (some p) := by
  go_enter Tryd.func18, Tryd.ntmps18
  go_wp2_with fail
  refine (below_any p a len cap n _ hc hn hn2).mono ?_
  rintro e w1 ⟨x, rfl, h0, h1, hc1, hg1⟩
  have HG := hide hg1
  have HC := hide hc1
  clear hc1 hg1 hc
  go_wp2
  go_ret
  exact ⟨_, rfl, HC.out, HG.out⟩

set_option maxRecDepth 100000 in
set_option maxHeartbeats 1000000 in
theorem pickR_any (R : Int → Prop) (p : Nat) (a : Option Addr) (len cap : Nat) (g n : Nat) (w : World) (hc : Cur w p a len cap) (hn : 0 < n) (hn2 : n ≤ 1000) (hg : g ≠ p) (hz : ∀ k, k < n → ∃ z : Int, R z ∧ w.cell? ⟨g, k, none⟩ = some (.int .i64 z)) :
    Calls Tryd.prog 25 #[.pointer (some ⟨p, 0, none⟩), .slice (some ⟨g, 0, none⟩) n n] w fun e w' => ∃ x : Int, e = .returned (.int .i64 x) ∧ R x ∧ Cur w' p a len cap ∧ w.grownBy w' (some p) := by
  have HZ := hide hz
  have HC := hide hc
  clear hz hc
  go_enter Tryd.func25, Tryd.ntmps25
  go_wp2_with fail
  refine (below_any p a len cap _ _ HC.out (by omega) (by omega)).mono ?_
  rintro e w1 ⟨x, rfl, h0, h1, hc1, hg1⟩
  obtain ⟨z, hR, hz⟩ := HZ.out x.toNat (by omega)
  have hz1 := hg1.cell hz (by simp; exact hg)
  have hxn : x < (n : Int) := h1
  have HR := hide hR
  have HG := hide hg1
  have HC1 := hide hc1
  clear hg1 hc1 hz hR
  go_wp2
  go_ret
  exact ⟨_, rfl, HR.out, HC1.out, HG.out⟩

end Go.Proofs.YthmmpmbnpfhloaaDoor
namespace Go.Proofs.YthmmpmbnpfhloaaDoor
open Go.RowKit

def lkE (l : Lk) : List Value := [.int .i64 l.a, .int .i64 l.b, .int .i64 l.c, .int .i64 l.r]

def thE (t : Th) : List Value := [.int .i64 t.o, .int .i64 t.k, .int .i64 t.c, .bool t.f]

theorem lkE_len (l : Lk) : (lkE l).length = 4 := rfl

theorem thE_len (t : Th) : (thE t).length = 4 := rfl

def LinksAt (W : World) (v : Value) (ls : List Lk) (B : Nat) : Prop := StructsAt lkE 4 W v ls B

def ThingsAt (W : World) (v : Value) (ts : List Th) (B : Nat) : Prop := StructsAt thE 4 W v ts B

theorem LinksAt.then {W W' : World} {v : Value} {ls : List Lk} (h : LinksAt W v ls W.heap.size) (hb : Below W.heap.size W W') : LinksAt W' v ls W'.heap.size := RowAt.then h hb

theorem ThingsAt.then {W W' : World} {v : Value} {ls : List Th} (h : ThingsAt W v ls W.heap.size) (hb : Below W.heap.size W W') : ThingsAt W' v ls W'.heap.size := RowAt.then h hb

theorem LinksAt.shape {W : World} {v : Value} {ls : List Lk} {B : Nat} (h : LinksAt W v ls B) : ∃ a cap, v = .slice a ls.length cap := by obtain ⟨a, cap, h, _⟩ := h; exact ⟨a, cap, h⟩

theorem ThingsAt.shape {W : World} {v : Value} {ls : List Th} {B : Nat} (h : ThingsAt W v ls B) : ∃ a cap, v = .slice a ls.length cap := by obtain ⟨a, cap, h, _⟩ := h; exact ⟨a, cap, h⟩

/-- the four cells of link i -/
theorem LinksAt.cells {W : World} {v : Value} {ls : List Lk} {B : Nat} (h : LinksAt W v ls B) (i : Nat) (l : Lk) (hl : ls[i]? = some l) :
    ∃ b off cap, v = .slice (some ⟨b, off, none⟩) ls.length cap ∧ b < B ∧ W.cell? ⟨b, off + i * 4, none⟩ = some (.int .i64 l.a) ∧ W.cell? ⟨b, off + i * 4 + 1, none⟩ = some (.int .i64 l.b) ∧
      W.cell? ⟨b, off + i * 4 + 2, none⟩ = some (.int .i64 l.c) ∧ W.cell? ⟨b, off + i * 4 + 3, none⟩ = some (.int .i64 l.r) := by
  obtain ⟨b, off, cap, hv, hb, hc⟩ := StructsAt.cell h lkE_len i l hl
  exact ⟨b, off, cap, hv, hb, hc 0 _ rfl, hc 1 _ rfl, hc 2 _ rfl, hc 3 _ rfl⟩

/-- the four cells of thing i -/
theorem ThingsAt.cells {W : World} {v : Value} {ls : List Th} {B : Nat} (h : ThingsAt W v ls B) (i : Nat) (l : Th) (hl : ls[i]? = some l) :
    ∃ b off cap, v = .slice (some ⟨b, off, none⟩) ls.length cap ∧ b < B ∧ W.cell? ⟨b, off + i * 4, none⟩ = some (.int .i64 l.o) ∧ W.cell? ⟨b, off + i * 4 + 1, none⟩ = some (.int .i64 l.k) ∧
      W.cell? ⟨b, off + i * 4 + 2, none⟩ = some (.int .i64 l.c) ∧ W.cell? ⟨b, off + i * 4 + 3, none⟩ = some (.bool l.f) := by
  obtain ⟨b, off, cap, hv, hb, hc⟩ := StructsAt.cell h thE_len i l hl
  exact ⟨b, off, cap, hv, hb, hc 0 _ rfl, hc 1 _ rfl, hc 2 _ rfl, hc 3 _ rfl⟩
end Go.Proofs.YthmmpmbnpfhloaaDoor
namespace Go.Proofs.YthmmpmbnpfhloaaDoor
open Go.RowKit

structure RecD where
  area : Int
  kind : Int
  owner : Int
  key : Int
  seq : Int
  near : List Nr
  cost : Int
  far : Bool
  deriving DecidableEq

def recC (x : RecD) (v : Value) : Array Value := #[.int .i64 x.area, .int .i64 x.kind, .int .i64 x.owner, .int .i64 x.key, .int .i64 x.seq, v, .int .i64 x.cost, .bool x.far]

/-- the value v is the record x, whose row lies below B -/
def RecAt (W : World) (v : Value) (x : RecD) (B : Nat) : Prop := ∃ v1, v = .agg (recC x v1) ∧ NearsAt W v1 x.near B

theorem RecAt.then {W W' : World} {v : Value} {x : RecD} (h : RecAt W v x W.heap.size) (hb : Below W.heap.size W W') : RecAt W' v x W'.heap.size := by
  obtain ⟨v1, hv, h1⟩ := h
  exact ⟨v1, hv, h1.then hb⟩

end Go.Proofs.YthmmpmbnpfhloaaDoor
namespace Go.Proofs.YthmmpmbnpfhloaaDoor
open Go.RowKit

structure WayD where
  to : Int
  cost : Int
  hops : List Int
  deriving DecidableEq

def wayC (x : WayD) (v : Value) : Array Value := #[.int .i64 x.to, .int .i64 x.cost, v]

/-- the value v is the way x, whose row lies below B -/
def WayAt (W : World) (v : Value) (x : WayD) (B : Nat) : Prop := ∃ v1, v = .agg (wayC x v1) ∧ HopsAt W v1 x.hops B

theorem WayAt.then {W W' : World} {v : Value} {x : WayD} (h : WayAt W v x W.heap.size) (hb : Below W.heap.size W W') : WayAt W' v x W'.heap.size := by
  obtain ⟨v1, hv, h1⟩ := h
  exact ⟨v1, hv, h1.then hb⟩

end Go.Proofs.YthmmpmbnpfhloaaDoor
