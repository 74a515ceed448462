/-
  The plain mathematics of numbers in bytes and figures; small laws on rows of bytes that a call makes.
-/
import Derived.WalkKit
import Derived.Laws.IdiomStrings
namespace Go.Proofs.YtpiookjdeopmgaaDoor
open Go.RowKit

theorem hide {p : Prop} (h : p) : Hid p := h

theorem unhide {p : Prop} (h : Hid p) : p := h

def bs (l : List UInt8) : ByteArray := ⟨l.toArray⟩

def cellsOf (l : List UInt8) : List Value := l.map fun b => Value.int .u8 (b.toNat : Int)

theorem cellsOf_length (l : List UInt8) : (cellsOf l).length = l.length := by simp [cellsOf]

theorem cellsOf_append (a b : List UInt8) : cellsOf (a ++ b) = cellsOf a ++ cellsOf b := by simp [cellsOf]

def varL (n : Nat) : List UInt8 := if h : n > 127 then UInt8.ofNat (n % 128 + 128) :: varL (n / 128) else [UInt8.ofNat n]

def hiB (m : Nat) : UInt8 := UInt8.ofNat (m % 128 + 128)

def loB (m : Nat) : UInt8 := UInt8.ofNat m

theorem byte_hi (m : Nat) : ((m : Int) % 128 + 128) = ((hiB m).toNat : Int) := by simp [hiB]; omega

theorem byte_lo (m : Nat) (h : m ≤ 127) : (m : Int) = ((loB m).toNat : Int) := by simp [loB]; omega

theorem varL_big {n : Nat} (h : 127 < n) : varL n = hiB n :: varL (n / 128) := by rw [varL]; simp [h, hiB]

theorem varL_small {n : Nat} (h : n ≤ 127) : varL n = [loB n] := by rw [varL]; simp [loB]; omega

theorem one_byte (x : Int) (b : UInt8) (h : x = (b.toNat : Int)) : [Value.int .u8 x] = cellsOf [b] := by simp [cellsOf, h]

/-- 'string(out)' of a row that the call itself made, its cells the bytes l. -/
theorem run_str_own {P : Program} {w : World} {base : Nat} {v : Value} {l : List UInt8} {n : Nat} (src dst e : TypeId) (hs : P.underlying src = some (.slice e)) (he : P.underlying e = some (.int .u8)) (hd : P.underlying dst = some .string)
    (hown : w.ownsRow base e 1 v n (cellsOf l)) : (convert src dst v).run P w = .ok (.string (bs l)) w := by
  have hl : l.length = n := by have := hown.1; simpa [cellsOf_length] using this
  subst hl
  rcases hown.2 with ⟨rfl, hn⟩ | ⟨g, cap, cur, rfl, hb, hg, hnc, hcm, hcs, htk⟩
  · have : l = [] := List.length_eq_zero_iff.1 hn
    subst this
    rw [run_convert_bytes_string w src dst e none 0 0 hs he hd]
    simp [Conv.bytesToString, bs, Sem.run_pure]
    rfl
  · exact run_convert_bytes_back w src dst e ⟨g, 0, none⟩ cap l hs he hd (fun j hj => by
      have := hown.cellAt j (by omega)
      have e1 : (⟨g, 0, none⟩ : Addr).add j = ⟨g, j, none⟩ := by
        simp only [Addr.add, Nat.zero_add]
        split <;> simp_all
      rw [e1, this]
      simp [cellsOf, List.getElem?_eq_getElem hj])

/-- The same as one step of a region that draws its order. -/
theorem step_append_bytes {P : Program} {ops : Array Oper} {o : Oper} {a : Act} {w : World} {K : Act → World → Prop} {Q : Exit → Act → World → Prop} {E : Prop} (hgd : o.guard = none) (s x : Operand) (t : TypeId)
    (ho : o.op = .call { callee := .builtin .append, args := #[s, x], argTypes := #[t, t] }) (base : Nat) (e : TypeId) (ht : P.underlying t = some (.slice e))
    (hinfo : (P.info? e).map (fun i => (i.zero, i.size, i.bytes)) = some (some (.int .u8 0), 1, 1))
    (v : Value) (l nb : List UInt8) (hs : a.eval s = v) (hown : w.ownsRow base e 1 v l.length (cellsOf l))
    (ad : Addr) (c : Nat) (hx : a.eval x = .slice (some ad) nb.length c) (hnews : ∀ j (h : j < nb.length), w.cell? (ad.add j) = some (.int .u8 (nb[j].toNat : Int)))
    (hlen : l.length + nb.length ≤ 100000000000) (hbase : base ≤ w.heap.size)
    (h : ∀ v' w' l', Hid (l' = l ++ nb) → w'.ownsRow base e 1 v' l'.length (cellsOf l') → w.grownBy w' v.ownBlock → K (a.put o.dst v') w') :
    if Region.wanted o (yielded ops a.tmps) = true then Oper.wp P o a w K Q else E := by
  have hw : Region.wanted o (yielded ops a.tmps) = true := by simp [Region.wanted, hgd]
  rw [if_pos hw]
  obtain ⟨i0, hi, hz0, hz1, hz2⟩ := info_parts hinfo
  refine wp_append_own w s x t ho base e i0 (.int .u8 0) 1 1 ht hi hz0 hz1 hz2 rfl (by decide) v l.length (cellsOf l) hs hown ad nb.length c (cellsOf nb) hx (by simp [cellsOf]) ?_ ?_ (by unfold maxLen; omega) (by omega) hbase ?_
  · intro j u hj
    have hj' : j < nb.length := by have := (List.getElem?_eq_some_iff.1 hj).1; simpa [cellsOf] using this
    rw [hnews j hj']
    simpa [cellsOf, List.getElem?_eq_getElem hj'] using hj
  · intro u hu
    simp only [cellsOf, List.mem_map] at hu
    obtain ⟨b, _, rfl⟩ := hu
    rfl
  · intro v' w' h1 h2 _
    rw [← cellsOf_append, ← List.length_append] at h1
    exact h v' w' _ rfl h1 h2

/-- 'append(out, b1, ..)' of bytes, out a row that the call itself made. -/
theorem wpList_append_bytes {P : Program} (w : World) {ops : Array Oper} {rest : List Oper} {o : Oper} {a : Act} {Q : Exit → Act → World → Prop} (hgd : o.guard = none) (s x : Operand) (t : TypeId)
    (ho : o.op = .call { callee := .builtin .append, args := #[s, x], argTypes := #[t, t] }) (base : Nat) (e : TypeId) (ht : P.underlying t = some (.slice e))
    (hinfo : (P.info? e).map (fun i => (i.zero, i.size, i.bytes)) = some (some (.int .u8 0), 1, 1))
    (v : Value) (l nb : List UInt8) (hs : a.eval s = v) (hown : w.ownsRow base e 1 v l.length (cellsOf l))
    (ad : Addr) (c : Nat) (hx : a.eval x = .slice (some ad) nb.length c) (hnews : ∀ j (h : j < nb.length), w.cell? (ad.add j) = some (.int .u8 (nb[j].toNat : Int)))
    (hlen : l.length + nb.length ≤ 100000000000) (hbase : base ≤ w.heap.size)
    (h : ∀ v' w' l', Hid (l' = l ++ nb) → w'.ownsRow base e 1 v' l'.length (cellsOf l') → w.grownBy w' v.ownBlock → wpList P ops Q rest (a.put o.dst v') w') : wpList P ops Q (o :: rest) a w := by
  obtain ⟨i0, hi, hz0, hz1, hz2⟩ := info_parts hinfo
  refine wpList_append_own w hgd s x t ho base e i0 (.int .u8 0) 1 1 ht hi hz0 hz1 hz2 rfl (by decide) v l.length (cellsOf l) hs hown ad nb.length c (cellsOf nb) hx (by simp [cellsOf]) ?_ ?_ (by unfold maxLen; omega) (by omega) hbase ?_
  · intro j u hj
    have hj' : j < nb.length := by have := (List.getElem?_eq_some_iff.1 hj).1; simpa [cellsOf] using this
    rw [hnews j hj']
    simpa [cellsOf, List.getElem?_eq_getElem hj'] using hj
  · intro u hu
    simp only [cellsOf, List.mem_map] at hu
    obtain ⟨b, _, rfl⟩ := hu
    rfl
  · intro v' w' h1 h2 _
    rw [← cellsOf_append, ← List.length_append] at h1
    exact h v' w' _ rfl h1 h2

theorem add_zero' (b o : Nat) : (⟨b, o, none⟩ : Addr).add 0 = ⟨b, o, none⟩ := rfl

/-- the one new cell of 'append(out, x)' -/
theorem news_one {w : World} (y : Int) (b : UInt8) (t : TypeId) (h : y = (b.toNat : Int)) : ∀ j (_ : j < [b].length), (w.alloc (.cells #[.int .u8 y] t)).cell? ((⟨w.heap.size, 0, none⟩ : Addr).add j) = some (.int .u8 ([b][j].toNat : Int)) := by
  intro j hj
  have : j = 0 := by simpa using hj
  subst this
  rw [add_zero', World.cell?_alloc_at _ _ _ _ rfl, h]
  rfl

theorem news_two {w : World} (y z : Int) (b c : UInt8) (t : TypeId) (h : y = (b.toNat : Int)) (h' : z = (c.toNat : Int)) :
    ∀ j (_ : j < [b, c].length), (w.alloc (.cells #[.int .u8 y, .int .u8 z] t)).cell? ((⟨w.heap.size, 0, none⟩ : Addr).add j) = some (.int .u8 ([b, c][j].toNat : Int)) := by
  intro j hj
  have : j = 0 ∨ j = 1 := by simp at hj; omega
  rcases this with rfl | rfl
  · rw [add_zero', World.cell?_alloc_at _ _ _ _ rfl, h]; rfl
  · have e : (⟨w.heap.size, 0, none⟩ : Addr).add 1 = ⟨w.heap.size, 1, none⟩ := rfl
    rw [e, World.cell?_alloc_at _ _ _ _ rfl, h']; rfl

theorem wrap_fit (x : Int) (h0 : -1000000000000000000 ≤ x) (h1 : x ≤ 1000000000000000000) : IntKind.i64.wrap x = x := by
  simp only [IntKind.wrap, IntKind.signed, IntKind.bits]
  simp
  omega

theorem idx_str {P : Program} {t : TypeId} (hu : P.underlying t = some .string) (s : ByteArray) (q c : Nat) (hq : q < s.size) (hc : c = s[q].toNat) (w : World) :
    (Instr.index t (.string s) (.int .i64 (q : Int))).run P w = .ok (.int .u8 (c : Int)) w := by
  rw [hc]; simp [go_sem, hq, hu]

theorem sl_str {P : Program} {t : TypeId} (hu : P.underlying t = some .string) (s u : ByteArray) (i j : Int) (h0 : 0 ≤ i) (h1 : i ≤ j) (h2 : j ≤ s.size) (he : u = s.extract i.toNat j.toNat) (w : World) :
    (Instr.slice t (.string s) (some (.int .i64 i)) (some (.int .i64 j)) none).run P w = .ok (.string u) w := by
  rw [he, run_slice_string w t s .i64 .i64 i j hu h0 h1 h2]

theorem grown_drew {w w' : World} {r : Option Nat} (h : w.drew.grownBy w' r) : w.grownBy w' r := ⟨h.os, h.tape, h.output, h.size, h.block⟩

/-- what an append leaves of old memory -/
theorem below_append {B : Nat} {w0 w w' : World} {v : Value} {base : Nat} {e : TypeId} {n : Nat} {xs : List Value} (o : Obj) (h : Below B w0 w) (hown : w.ownsRow base e 1 v n xs) (hB : B ≤ base) (hBw : B ≤ w.heap.size) (hg : (w.alloc o).grownBy w' v.ownBlock) : Below B w0 w' :=
  (h.alloc hBw o).grown hg (by simp; omega) (fun k hk => Nat.le_trans hB (hown.lt k hk).1)

def fig (x : Int) : UInt8 := if x < 10 then UInt8.ofNat (48 + x.toNat) else UInt8.ofNat (87 + x.toNat)

theorem fig_lo (x : Int) (h0 : 0 ≤ x) (h : x < 10) : (48 : Int) + x = ((fig x).toNat : Int) := by simp [fig, h]; omega

theorem fig_hi (x : Int) (h0 : 10 ≤ x) (h : x < 16) : (97 : Int) + x - 10 = ((fig x).toNat : Int) := by
  have : ¬ x < 10 := by omega
  simp [fig, this]; omega

theorem ret_int {k : IntKind} {a b : Int} (h : a = b) : Ending.returned (.int k a) = .returned (.int k b) := by rw [h]
end Go.Proofs.YtpiookjdeopmgaaDoor
