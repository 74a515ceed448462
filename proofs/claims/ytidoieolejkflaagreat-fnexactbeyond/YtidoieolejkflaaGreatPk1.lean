/-
  The plain mathematics of numbers in bytes and figures; small laws on rows of bytes that a call makes.
  The search for shortest ways, as values: what holds while nodes are gone on from one by one, the cheapest first; that its end tells costs and hops which are determined by the links alone.
  What every walk of this seat imports; the element type's row of the table.
  Rows that a call made, and what stays of them.
  Rows whose elements are structs: their cells one behind another.
  What rows of structs and struct results want, of no function.
-/
import Derived.WalkKit
import Derived.Laws.IdiomStrings
import Derived.Test.YtidoieolejkflaaGreatRows
import Derived.WalkSpells
import Derived.WalkLawsBesides
import Derived.OwnWalk
import Derived.Deep.QuietTactic
import Derived.BigQuiet
import Derived.Handy
namespace Go.Proofs.YtidoieolejkflaaGreat
open Go.RowKit

theorem hide {p : Prop} (h : p) : Hid p := h

theorem unhide {p : Prop} (h : Hid p) : p := h

def bs (l : List UInt8) : ByteArray := ⟨l.toArray⟩

def cellsOf (l : List UInt8) : List Value := l.map fun b => Value.int .u8 (b.toNat : Int)

theorem cellsOf_length (l : List UInt8) : (cellsOf l).length = l.length := by simp [cellsOf]

theorem cellsOf_append (a b : List UInt8) : cellsOf (a ++ b) = cellsOf a ++ cellsOf b := by simp [cellsOf]

def varL (n : Nat) : List UInt8 := if h : n > 127 then UInt8.ofNat (n % 128 + 128) :: varL (n / 128) else [UInt8.ofNat n]

def hiB (m : Nat) : UInt8 := UInt8.ofNat (m % 128 + 128)

def loB (m : Nat) : UInt8 := UInt8.ofNat m

theorem byte_hi (m : Nat) : ((m : Int) % 128 + 128) = ((hiB m).toNat : Int) := by simp [hiB]; omega

theorem byte_lo (m : Nat) (h : m ≤ 127) : (m : Int) = ((loB m).toNat : Int) := by simp [loB]; omega

theorem varL_big {n : Nat} (h : 127 < n) : varL n = hiB n :: varL (n / 128) := by rw [varL]; simp [h, hiB]

theorem varL_small {n : Nat} (h : n ≤ 127) : varL n = [loB n] := by rw [varL]; simp [loB]; omega

theorem one_byte (x : Int) (b : UInt8) (h : x = (b.toNat : Int)) : [Value.int .u8 x] = cellsOf [b] := by simp [cellsOf, h]

/-- 'string(out)' of a row that the call itself made, its cells the bytes l. -/
theorem run_str_own {P : Program} {w : World} {base : Nat} {v : Value} {l : List UInt8} {n : Nat} (src dst e : TypeId) (hs : P.underlying src = some (.slice e)) (he : P.underlying e = some (.int .u8)) (hd : P.underlying dst = some .string)
    (hown : w.ownsRow base e 1 v n (cellsOf l)) : (convert src dst v).run P w = .ok (.string (bs l)) w := by
  have hl : l.length = n := by have := hown.1; simpa [cellsOf_length] using this
  subst hl
  rcases hown.2 with ⟨rfl, hn⟩ | ⟨g, cap, cur, rfl, hb, hg, hnc, hcm, hcs, htk⟩
  · have : l = [] := List.length_eq_zero_iff.1 hn
    subst this
    rw [run_convert_bytes_string w src dst e none 0 0 hs he hd]
    simp [Conv.bytesToString, bs, Sem.run_pure]
    rfl
  · exact run_convert_bytes_back w src dst e ⟨g, 0, none⟩ cap l hs he hd (fun j hj => by
      have := hown.cellAt j (by omega)
      have e1 : (⟨g, 0, none⟩ : Addr).add j = ⟨g, j, none⟩ := by
        simp only [Addr.add, Nat.zero_add]
        split <;> simp_all
      rw [e1, this]
      simp [cellsOf, List.getElem?_eq_getElem hj])

/-- The same as one step of a region that draws its order. -/
theorem step_append_bytes {P : Program} {ops : Array Oper} {o : Oper} {a : Act} {w : World} {K : Act → World → Prop} {Q : Exit → Act → World → Prop} {E : Prop} (hgd : o.guard = none) (s x : Operand) (t : TypeId)
    (ho : o.op = .call { callee := .builtin .append, args := #[s, x], argTypes := #[t, t] }) (base : Nat) (e : TypeId) (ht : P.underlying t = some (.slice e))
    (hinfo : (P.info? e).map (fun i => (i.zero, i.size, i.bytes)) = some (some (.int .u8 0), 1, 1))
    (v : Value) (l nb : List UInt8) (hs : a.eval s = v) (hown : w.ownsRow base e 1 v l.length (cellsOf l))
    (ad : Addr) (c : Nat) (hx : a.eval x = .slice (some ad) nb.length c) (hnews : ∀ j (h : j < nb.length), w.cell? (ad.add j) = some (.int .u8 (nb[j].toNat : Int)))
    (hlen : l.length + nb.length ≤ 100000000000) (hbase : base ≤ w.heap.size)
    (h : ∀ v' w' l', Hid (l' = l ++ nb) → w'.ownsRow base e 1 v' l'.length (cellsOf l') → w.grownBy w' v.ownBlock → K (a.put o.dst v') w') :
    if Region.wanted o (yielded ops a.tmps) = true then Oper.wp P o a w K Q else E := by
  have hw : Region.wanted o (yielded ops a.tmps) = true := by simp [Region.wanted, hgd]
  rw [if_pos hw]
  obtain ⟨i0, hi, hz0, hz1, hz2⟩ := info_parts hinfo
  refine wp_append_own w s x t ho base e i0 (.int .u8 0) 1 1 ht hi hz0 hz1 hz2 rfl (by decide) v l.length (cellsOf l) hs hown ad nb.length c (cellsOf nb) hx (by simp [cellsOf]) ?_ ?_ (by unfold maxLen; omega) (by omega) hbase ?_
  · intro j u hj
    have hj' : j < nb.length := by have := (List.getElem?_eq_some_iff.1 hj).1; simpa [cellsOf] using this
    rw [hnews j hj']
    simpa [cellsOf, List.getElem?_eq_getElem hj'] using hj
  · intro u hu
    simp only [cellsOf, List.mem_map] at hu
    obtain ⟨b, _, rfl⟩ := hu
    rfl
  · intro v' w' h1 h2 _
    rw [← cellsOf_append, ← List.length_append] at h1
    exact h v' w' _ rfl h1 h2

/-- 'append(out, b1, ..)' of bytes, out a row that the call itself made. -/
theorem wpList_append_bytes {P : Program} (w : World) {ops : Array Oper} {rest : List Oper} {o : Oper} {a : Act} {Q : Exit → Act → World → Prop} (hgd : o.guard = none) (s x : Operand) (t : TypeId)
    (ho : o.op = .call { callee := .builtin .append, args := #[s, x], argTypes := #[t, t] }) (base : Nat) (e : TypeId) (ht : P.underlying t = some (.slice e))
    (hinfo : (P.info? e).map (fun i => (i.zero, i.size, i.bytes)) = some (some (.int .u8 0), 1, 1))
    (v : Value) (l nb : List UInt8) (hs : a.eval s = v) (hown : w.ownsRow base e 1 v l.length (cellsOf l))
    (ad : Addr) (c : Nat) (hx : a.eval x = .slice (some ad) nb.length c) (hnews : ∀ j (h : j < nb.length), w.cell? (ad.add j) = some (.int .u8 (nb[j].toNat : Int)))
    (hlen : l.length + nb.length ≤ 100000000000) (hbase : base ≤ w.heap.size)
    (h : ∀ v' w' l', Hid (l' = l ++ nb) → w'.ownsRow base e 1 v' l'.length (cellsOf l') → w.grownBy w' v.ownBlock → wpList P ops Q rest (a.put o.dst v') w') : wpList P ops Q (o :: rest) a w := by
  obtain ⟨i0, hi, hz0, hz1, hz2⟩ := info_parts hinfo
  refine wpList_append_own w hgd s x t ho base e i0 (.int .u8 0) 1 1 ht hi hz0 hz1 hz2 rfl (by decide) v l.length (cellsOf l) hs hown ad nb.length c (cellsOf nb) hx (by simp [cellsOf]) ?_ ?_ (by unfold maxLen; omega) (by omega) hbase ?_
  · intro j u hj
    have hj' : j < nb.length := by have := (List.getElem?_eq_some_iff.1 hj).1; simpa [cellsOf] using this
    rw [hnews j hj']
    simpa [cellsOf, List.getElem?_eq_getElem hj'] using hj
  · intro u hu
    simp only [cellsOf, List.mem_map] at hu
    obtain ⟨b, _, rfl⟩ := hu
    rfl
  · intro v' w' h1 h2 _
    rw [← cellsOf_append, ← List.length_append] at h1
    exact h v' w' _ rfl h1 h2

theorem add_zero' (b o : Nat) : (⟨b, o, none⟩ : Addr).add 0 = ⟨b, o, none⟩ := rfl

/-- the one new cell of 'append(out, x)' -/
theorem news_one {w : World} (y : Int) (b : UInt8) (t : TypeId) (h : y = (b.toNat : Int)) : ∀ j (_ : j < [b].length), (w.alloc (.cells #[.int .u8 y] t)).cell? ((⟨w.heap.size, 0, none⟩ : Addr).add j) = some (.int .u8 ([b][j].toNat : Int)) := by
  intro j hj
  have : j = 0 := by simpa using hj
  subst this
  rw [add_zero', World.cell?_alloc_at _ _ _ _ rfl, h]
  rfl

theorem news_two {w : World} (y z : Int) (b c : UInt8) (t : TypeId) (h : y = (b.toNat : Int)) (h' : z = (c.toNat : Int)) :
    ∀ j (_ : j < [b, c].length), (w.alloc (.cells #[.int .u8 y, .int .u8 z] t)).cell? ((⟨w.heap.size, 0, none⟩ : Addr).add j) = some (.int .u8 ([b, c][j].toNat : Int)) := by
  intro j hj
  have : j = 0 ∨ j = 1 := by simp at hj; omega
  rcases this with rfl | rfl
  · rw [add_zero', World.cell?_alloc_at _ _ _ _ rfl, h]; rfl
  · have e : (⟨w.heap.size, 0, none⟩ : Addr).add 1 = ⟨w.heap.size, 1, none⟩ := rfl
    rw [e, World.cell?_alloc_at _ _ _ _ rfl, h']; rfl

theorem wrap_fit (x : Int) (h0 : -1000000000000000000 ≤ x) (h1 : x ≤ 1000000000000000000) : IntKind.i64.wrap x = x := by
  simp only [IntKind.wrap, IntKind.signed, IntKind.bits]
  simp
  omega

theorem idx_str {P : Program} {t : TypeId} (hu : P.underlying t = some .string) (s : ByteArray) (q c : Nat) (hq : q < s.size) (hc : c = s[q].toNat) (w : World) :
    (Instr.index t (.string s) (.int .i64 (q : Int))).run P w = .ok (.int .u8 (c : Int)) w := by
  rw [hc]; simp [go_sem, hq, hu]

theorem sl_str {P : Program} {t : TypeId} (hu : P.underlying t = some .string) (s u : ByteArray) (i j : Int) (h0 : 0 ≤ i) (h1 : i ≤ j) (h2 : j ≤ s.size) (he : u = s.extract i.toNat j.toNat) (w : World) :
    (Instr.slice t (.string s) (some (.int .i64 i)) (some (.int .i64 j)) none).run P w = .ok (.string u) w := by
  rw [he, run_slice_string w t s .i64 .i64 i j hu h0 h1 h2]

theorem grown_drew {w w' : World} {r : Option Nat} (h : w.drew.grownBy w' r) : w.grownBy w' r := ⟨h.os, h.tape, h.output, h.size, h.block⟩

/-- what an append leaves of old memory -/
theorem below_append {B : Nat} {w0 w w' : World} {v : Value} {base : Nat} {e : TypeId} {n : Nat} {xs : List Value} (o : Obj) (h : Below B w0 w) (hown : w.ownsRow base e 1 v n xs) (hB : B ≤ base) (hBw : B ≤ w.heap.size) (hg : (w.alloc o).grownBy w' v.ownBlock) : Below B w0 w' :=
  (h.alloc hBw o).grown hg (by simp; omega) (fun k hk => Nat.le_trans hB (hown.lt k hk).1)

def fig (x : Int) : UInt8 := if x < 10 then UInt8.ofNat (48 + x.toNat) else UInt8.ofNat (87 + x.toNat)

theorem fig_lo (x : Int) (h0 : 0 ≤ x) (h : x < 10) : (48 : Int) + x = ((fig x).toNat : Int) := by simp [fig, h]; omega

theorem fig_hi (x : Int) (h0 : 10 ≤ x) (h : x < 16) : (97 : Int) + x - 10 = ((fig x).toNat : Int) := by
  have : ¬ x < 10 := by omega
  simp [fig, this]; omega

theorem ret_int {k : IntKind} {a b : Int} (h : a = b) : Ending.returned (.int k a) = .returned (.int k b) := by rw [h]
end Go.Proofs.YtidoieolejkflaaGreat
namespace Go.Proofs.YtidoieolejkflaaGreat

/-- the nodes are 1 .. 6 -/
def IsNode (v : Nat) : Prop := 1 ≤ v ∧ v ≤ 6

/-- costs of links: not below 0, at most K, of nodes alone -/
structure Links (L : Nat → Nat → Int) (K : Int) : Prop where
  pos : ∀ u v, 0 ≤ L u v
  le : ∀ u v, L u v ≤ K
  node : ∀ u v, 0 < L u v → IsNode u ∧ IsNode v

/-- the hop by which a way goes on over the link from u to v -/
def OverHop (src : Nat) (h : Nat → List Int) (u v : Nat) (x : Int) : Prop := (u = src ∧ x = (v : Int)) ∨ (u ≠ src ∧ x ∈ h u)

/-- the state of a search from src: F are the nodes that are done, c the costs (below 0: none yet), h the hops -/
structure Inv (L : Nat → Nat → Int) (src : Nat) (F : Nat → Bool) (c : Nat → Int) (h : Nat → List Int) : Prop where
  fnode : ∀ v, F v = true → IsNode v ∧ 0 ≤ c v
  cnode : ∀ v, 0 ≤ c v → IsNode v
  start : c src = 0
  start0 : h src = []
  closed : ∀ u v, F u = true → 0 < L u v → 0 ≤ c v ∧ c v ≤ c u + L u v
  pred : ∀ v, v ≠ src → 0 ≤ c v → ∃ u, F u = true ∧ 0 < L u v ∧ c v = c u + L u v
  mono : ∀ u v, F u = true → F v = false → 0 ≤ c v → c u ≤ c v
  hop : ∀ v, v ≠ src → ∀ x, x ∈ h v ↔ 0 ≤ c v ∧ ∃ u, F u = true ∧ 0 < L u v ∧ c v = c u + L u v ∧ OverHop src h u v x
  asc : ∀ v, (h v).Pairwise (· < ·)
  rng : ∀ v x, x ∈ h v → 1 ≤ x ∧ x ≤ 6

/-- what going on from u makes of the cost of v -/
def relaxC (L : Nat → Nat → Int) (c : Nat → Int) (u v : Nat) : Int :=
  if 0 < L u v ∧ (c v < 0 ∨ c u + L u v < c v) then c u + L u v else c v

theorem relaxC_le {L : Nat → Nat → Int} {c : Nat → Int} {u v : Nat} (h : 0 ≤ c v) : relaxC L c u v ≤ c v := by
  unfold relaxC; split <;> omega

theorem relaxC_nn {L : Nat → Nat → Int} {c : Nat → Int} {u v : Nat} (hu : 0 ≤ c u) (h : 0 ≤ c v) : 0 ≤ relaxC L c u v := by
  unfold relaxC; split <;> omega

theorem relaxC_same {L : Nat → Nat → Int} {c : Nat → Int} {u v : Nat} (h0 : 0 ≤ c v) (h : c v ≤ c u) : relaxC L c u v = c v := by
  unfold relaxC; split <;> omega

/-- the hops behind going on from u, as a set -/
structure RelaxH (L : Nat → Nat → Int) (src : Nat) (c : Nat → Int) (h : Nat → List Int) (u v : Nat) (h' : List Int) : Prop where
  asc : h'.Pairwise (· < ·)
  mem : ∀ x, x ∈ h' ↔ ((x ∈ h v ∧ relaxC L c u v = c v) ∨ (0 < L u v ∧ relaxC L c u v = c u + L u v ∧ OverHop src h u v x))

theorem Inv.step {L : Nat → Nat → Int} {K : Int} {src : Nat} {F : Nat → Bool} {c : Nat → Int} {h : Nat → List Int} (I : Inv L src F c h) (hL : Links L K)
    {u : Nat} (hu : F u = false) (hcu : 0 ≤ c u) (hmin : ∀ v, F v = false → 0 ≤ c v → c u ≤ c v) {h' : Nat → List Int} (hh : ∀ v, RelaxH L src c h u v (h' v)) :
    Inv L src (fun v => F v || v == u) (fun v => relaxC L c u v) h' := by
  have hup : ∀ v, F v = true → c v ≤ c u := fun v hv => I.mono v u hv hu hcu
  have keep : ∀ v, F v = true → relaxC L c u v = c v := fun v hv => relaxC_same (I.fnode v hv).2 (hup v hv)
  have keepu : relaxC L c u u = c u := relaxC_same hcu (Int.le_refl _)
  have hsrc : relaxC L c u src = 0 := by
    have := I.start
    unfold relaxC; split <;> omega
  have hFn : ∀ v, F v = true → v ≠ u := fun v hv e => by rw [e, hu] at hv; cases hv
  -- hops of done nodes and of u stay
  have hsame : ∀ v, 0 ≤ c v → c v ≤ c u → ∀ x, x ∈ h' v ↔ x ∈ h v := by
    intro v h0 hv x
    rw [(hh v).mem x]
    have e := relaxC_same (L := L) h0 hv
    constructor
    · rintro (⟨h1, _⟩ | ⟨h1, h2, _⟩)
      · exact h1
      · omega
    · intro h1; exact .inl ⟨h1, e⟩
  have hover : ∀ w, (F w = true ∨ w = u) → ∀ v x, OverHop src h' w v x ↔ OverHop src h w v x := by
    intro w hw v x
    have : ∀ x, x ∈ h' w ↔ x ∈ h w := by
      rcases hw with hw | rfl
      · exact hsame w (I.fnode w hw).2 (hup w hw)
      · exact hsame _ hcu (Int.le_refl _)
    unfold OverHop; rw [this x]
  have hFu : ∀ v, (F v || v == u) = true ↔ (F v = true ∨ v = u) := by
    intro v; simp
  refine ⟨?_, ?_, hsrc, ?_, ?_, ?_, ?_, ?_, fun v => (hh v).asc, ?_⟩
  · intro v hv
    rcases (hFu v).1 hv with h1 | rfl
    · refine ⟨(I.fnode v h1).1, ?_⟩
      show 0 ≤ relaxC L c u v
      rw [keep v h1]; exact (I.fnode v h1).2
    · refine ⟨I.cnode _ hcu, ?_⟩
      show 0 ≤ relaxC L c _ _
      rw [keepu]; exact hcu
  · intro v hv
    have hv' : 0 ≤ relaxC L c u v := hv
    unfold relaxC at hv'
    split at hv'
    · rename_i h1; exact (hL.node u v h1.1).2
    · exact I.cnode v hv'
  · have : ∀ x, x ∉ h' src := by
      intro x hx
      rw [(hh src).mem x, I.start0] at hx
      rcases hx with ⟨h1, _⟩ | ⟨h1, h2, _⟩
      · cases h1
      · rw [hsrc] at h2; omega
    exact List.eq_nil_iff_forall_not_mem.2 this
  · intro w v hw hl
    show 0 ≤ relaxC L c u v ∧ relaxC L c u v ≤ relaxC L c u w + L w v
    rcases (hFu w).1 hw with h1 | rfl
    · rw [keep w h1]
      have := I.closed w v h1 hl
      have h2 := relaxC_le (L := L) (u := u) this.1
      have h3 := relaxC_nn (L := L) hcu this.1
      omega
    · rw [keepu]
      unfold relaxC
      split <;> omega
  · intro v hv h0
    have h0' : 0 ≤ relaxC L c u v := h0
    show ∃ w, (F w || w == u) = true ∧ 0 < L w v ∧ relaxC L c u v = relaxC L c u w + L w v
    by_cases h1 : 0 < L u v ∧ (c v < 0 ∨ c u + L u v < c v)
    · refine ⟨u, by simp, h1.1, ?_⟩
      rw [keepu]; unfold relaxC; rw [if_pos h1]
    · have e : relaxC L c u v = c v := by unfold relaxC; rw [if_neg h1]
      rw [e] at h0' ⊢
      obtain ⟨w, hw, hl, hc⟩ := I.pred v hv h0'
      exact ⟨w, by simp [hw], hl, by rw [keep w hw]; exact hc⟩
  · intro w v hw hv h0
    have h0' : 0 ≤ relaxC L c u v := h0
    have hv1 : F v = false := by cases hfv : F v <;> simp [hfv] at hv ⊢
    show relaxC L c u w ≤ relaxC L c u v
    have hwc : relaxC L c u w ≤ c u := by
      rcases (hFu w).1 hw with h1 | rfl
      · rw [keep w h1]; exact hup w h1
      · rw [keepu]; omega
    have huv : c u ≤ relaxC L c u v := by
      by_cases h1 : 0 < L u v ∧ (c v < 0 ∨ c u + L u v < c v)
      · unfold relaxC; rw [if_pos h1]; omega
      · have e : relaxC L c u v = c v := by unfold relaxC; rw [if_neg h1]
        rw [e] at h0' ⊢
        exact hmin v hv1 h0'
    omega
  · intro v hv x
    show x ∈ h' v ↔ 0 ≤ relaxC L c u v ∧ ∃ w, (F w || w == u) = true ∧ 0 < L w v ∧ relaxC L c u v = relaxC L c u w + L w v ∧ OverHop src h' w v x
    rw [(hh v).mem x]
    constructor
    · rintro (⟨h1, h2⟩ | ⟨h1, h2, h3⟩)
      · obtain ⟨h0, w, hw, hl, hc, ho⟩ := (I.hop v hv x).1 h1
        rw [h2]
        exact ⟨h0, w, by simp [hw], hl, by rw [keep w hw]; exact hc, (hover w (.inl hw) v x).2 ho⟩
      · refine ⟨by omega, u, by simp, h1, by rw [keepu]; exact h2, (hover u (.inr rfl) v x).2 h3⟩
    · rintro ⟨h0, w, hw, hl, hc, ho⟩
      rcases (hFu w).1 hw with h1 | rfl
      · rw [keep w h1] at hc
        have hcl := I.closed w v h1 hl
        have h3 := relaxC_le (L := L) (u := u) hcl.1
        have e : relaxC L c u v = c v := by omega
        refine .inl ⟨(I.hop v hv x).2 ⟨hcl.1, w, h1, hl, by omega, (hover w (.inl h1) v x).1 ho⟩, e⟩
      · rw [keepu] at hc
        exact .inr ⟨hl, hc, (hover _ (.inr rfl) v x).1 ho⟩
  · intro v x hx
    rw [(hh v).mem x] at hx
    rcases hx with ⟨h1, _⟩ | ⟨h1, _, h3⟩
    · exact I.rng v x h1
    · rcases h3 with ⟨_, rfl⟩ | ⟨_, h4⟩
      · have := (hL.node u v h1).2; unfold IsNode at this; omega
      · exact I.rng u x h4

/-- ascending lists with the same members are the same -/
theorem asc_ext : ∀ {a b : List Int}, a.Pairwise (· < ·) → b.Pairwise (· < ·) → (∀ x, x ∈ a ↔ x ∈ b) → a = b
  | [], [], _, _, _ => rfl
  | [], y :: ys, _, _, h => by have := (h y).2 (by simp); cases this
  | x :: xs, [], _, _, h => by have := (h x).1 (by simp); cases this
  | x :: xs, y :: ys, ha, hb, h => by
    have ha' := List.pairwise_cons.1 ha
    have hb' := List.pairwise_cons.1 hb
    have hxy : x = y := by
      have h1 := (h x).1 (by simp)
      have h2 := (h y).2 (by simp)
      rcases List.mem_cons.1 h1 with e | e
      · exact e
      · rcases List.mem_cons.1 h2 with e2 | e2
        · exact e2.symm
        · have := ha'.1 y e2; have := hb'.1 x e; omega
    subst hxy
    have : xs = ys := by
      refine asc_ext ha'.2 hb'.2 (fun z => ?_)
      have hz := h z
      constructor
      · intro hm
        have h1 := hz.1 (List.mem_cons_of_mem _ hm)
        rcases List.mem_cons.1 h1 with e | e
        · have := ha'.1 z hm; omega
        · exact e
      · intro hm
        have h1 := hz.2 (List.mem_cons_of_mem _ hm)
        rcases List.mem_cons.1 h1 with e | e
        · have := hb'.1 z hm; omega
        · exact e
    rw [this]

/-- the end of a search: every node that has a cost is done -/
def Fix (L : Nat → Nat → Int) (src : Nat) (c : Nat → Int) (h : Nat → List Int) : Prop := ∃ F, Inv L src F c h ∧ ∀ v, 0 ≤ c v → F v = true

theorem Fix.cost_le {L : Nat → Nat → Int} {src : Nat} {c d : Nat → Int} {h g : Nat → List Int} (A : Fix L src c h) (B : Fix L src d g) :
    ∀ (n : Nat) (v : Nat), 0 ≤ c v → (c v).toNat ≤ n → 0 ≤ d v ∧ d v ≤ c v := by
  obtain ⟨F, I, hF⟩ := A
  obtain ⟨G, J, hG⟩ := B
  intro n
  induction n with
  | zero =>
    intro v h0 hn
    by_cases hv : v = src
    · subst hv; rw [J.start]; omega
    · obtain ⟨u, hu, hl, hc⟩ := I.pred v hv h0
      have := (I.fnode u hu).2
      omega
  | succ n ih =>
    intro v h0 hn
    by_cases hv : v = src
    · subst hv; rw [J.start, I.start]; omega
    · obtain ⟨u, hu, hl, hc⟩ := I.pred v hv h0
      have h1 := (I.fnode u hu).2
      have h2 := ih u h1 (by omega)
      have h3 := J.closed u v (hG u h2.1) hl
      omega

theorem Fix.cost {L : Nat → Nat → Int} {src : Nat} {c d : Nat → Int} {h g : Nat → List Int} (A : Fix L src c h) (B : Fix L src d g) (v : Nat) (h0 : 0 ≤ c v) : d v = c v := by
  have h1 := A.cost_le B _ v h0 (Nat.le_refl _)
  have h2 := B.cost_le A _ v h1.1 (Nat.le_refl _)
  omega

theorem Fix.hops_sub {L : Nat → Nat → Int} {src : Nat} {c d : Nat → Int} {h g : Nat → List Int} (A : Fix L src c h) (B : Fix L src d g) :
    ∀ (n : Nat) (v : Nat), 0 ≤ c v → (c v).toNat ≤ n → ∀ x, x ∈ h v → x ∈ g v := by
  have hcost := A.cost B
  obtain ⟨F, I, hF⟩ := A
  obtain ⟨G, J, hG⟩ := B
  intro n
  induction n with
  | zero =>
    intro v h0 hn x hx
    by_cases hv : v = src
    · subst hv; rw [I.start0] at hx; cases hx
    · obtain ⟨u, hu, hl, hc⟩ := I.pred v hv h0
      have := (I.fnode u hu).2
      omega
  | succ n ih =>
    intro v h0 hn x hx
    by_cases hv : v = src
    · subst hv; rw [I.start0] at hx; cases hx
    · obtain ⟨_, u, hu, hl, hc, ho⟩ := (I.hop v hv x).1 hx
      have h1 := (I.fnode u hu).2
      have eu := hcost u h1
      have ev := hcost v h0
      refine (J.hop v hv x).2 ⟨by omega, u, hG u (by omega), hl, by omega, ?_⟩
      rcases ho with h3 | ⟨h3, h4⟩
      · exact .inl h3
      · exact .inr ⟨h3, ih u h1 (by omega) x h4⟩

theorem Fix.hops {L : Nat → Nat → Int} {src : Nat} {c d : Nat → Int} {h g : Nat → List Int} (A : Fix L src c h) (B : Fix L src d g) (v : Nat) (h0 : 0 ≤ c v) : g v = h v := by
  have e := A.cost B v h0
  have sub1 := A.hops_sub B _ v h0 (Nat.le_refl _)
  have sub2 := B.hops_sub A _ v (by omega : 0 ≤ d v) (Nat.le_refl _)
  obtain ⟨F, I, _⟩ := A
  obtain ⟨G, J, _⟩ := B
  exact asc_ext (J.asc v) (I.asc v) (fun x => ⟨sub2 x, sub1 x⟩)

/-- the search's start -/
theorem Inv.init {L : Nat → Nat → Int} {src : Nat} (hs : IsNode src) : Inv L src (fun _ => false) (fun v => if v = src then 0 else -1) (fun _ => []) := by
  refine ⟨by simp, ?_, by simp, rfl, by simp, ?_, by simp, ?_, by simp, by simp⟩
  · intro v hv
    have hv' : (0 : Int) ≤ if v = src then 0 else -1 := hv
    split at hv'
    · rename_i e; rw [e]; exact hs
    · omega
  · intro v hv h0
    have h0' : (0 : Int) ≤ if v = src then 0 else -1 := h0
    rw [if_neg hv] at h0'; omega
  · intro v hv x
    simp [hv]
end Go.Proofs.YtidoieolejkflaaGreat
namespace Go.Proofs.YtidoieolejkflaaGreat
open Go.RowKit

theorem Tryz.info5 : (Tryz.prog.info? 5).map (fun i => (i.zero, i.size, i.bytes)) = some (some (.int .u8 0), 1, 1) := by kernel_rfl
end Go.Proofs.YtidoieolejkflaaGreat
namespace Go.Proofs.YtidoieolejkflaaGreat
open Go.RowKit

theorem owns_below {w w' : World} {base B : Nat} {e : TypeId} {size : Nat} {v : Value} {n : Nat} {xs : List Value} (h : w.ownsRow base e size v n xs) (hb : Below B w w') (hB : w.heap.size ≤ B) : w'.ownsRow base e size v n xs := by
  refine ⟨h.1, ?_⟩
  rcases h.2 with h2 | ⟨g, cap, cur, hv, hg, hh, r⟩
  · exact .inl h2
  · have hlt : g < w.heap.size := by
      rcases Nat.lt_or_ge g w.heap.size with hl | hl
      · exact hl
      · rw [Array.getElem?_eq_none hl] at hh; cases hh
    exact .inr ⟨g, cap, cur, hv, hg, by rw [hb.block g (by omega)]; exact hh, r⟩

theorem owns_shape {w : World} {base : Nat} {e : TypeId} {v : Value} {n : Nat} {xs : List Value} (h : w.ownsRow base e 1 v n xs) (hn : 0 < n) :
    ∃ g cap, v = .slice (some ⟨g, 0, none⟩) n cap ∧ base ≤ g ∧ g < w.heap.size := by
  rcases h.2 with ⟨_, h0⟩ | ⟨g, cap, cur, hv, hb, hg, _⟩
  · omega
  · refine ⟨g, cap, hv, hb, ?_⟩
    rcases Nat.lt_or_ge g w.heap.size with hlt | hge
    · exact hlt
    · rw [Array.getElem?_eq_none hge] at hg; cases hg

theorem owns_len {w : World} {base : Nat} {e : TypeId} {v : Value} {n : Nat} {xs : List Value} (h : w.ownsRow base e 1 v n xs) : ∃ a cap, v = .slice a n cap := by
  rcases h.2 with ⟨h1, h0⟩ | ⟨g, cap, cur, hv, _⟩
  · exact ⟨none, 0, by rw [h1, h0]⟩
  · exact ⟨_, cap, hv⟩

theorem owns_lenS {w : World} {base size : Nat} {e : TypeId} {v : Value} {n : Nat} {xs : List Value} (h : w.ownsRow base e size v n xs) : ∃ a cap, v = .slice a n cap := by
  rcases h.2 with ⟨h1, h0⟩ | ⟨g, cap, cur, hv, _⟩
  · exact ⟨none, 0, by rw [h1, h0]⟩
  · exact ⟨_, cap, hv⟩

theorem owns_baseS {w : World} {b0 b1 size : Nat} {e : TypeId} {v : Value} {n : Nat} {xs : List Value} (h : w.ownsRow b1 e size v n xs) (hb : b0 ≤ b1) : w.ownsRow b0 e size v n xs := by
  refine ⟨h.1, ?_⟩
  rcases h.2 with h2 | ⟨g, cap, cur, hv, hg, r⟩
  · exact .inl h2
  · exact .inr ⟨g, cap, cur, hv, Nat.le_trans hb hg, r⟩

/-- a row stays where another block is written -/
theorem owns_set {w : World} {base size p j : Nat} {e : TypeId} {v u : Value} {n : Nat} {xs : List Value} (h : w.ownsRow base e size v n xs) (hp : p < base) : (w.setCell ⟨p, j, none⟩ u).ownsRow base e size v n xs := by
  refine ⟨h.1, ?_⟩
  rcases h.2 with h2 | ⟨g, cap, cur, hv, hg, hh, r⟩
  · exact .inl h2
  · exact .inr ⟨g, cap, cur, hv, hg, by rw [heap_setCell_other w ⟨p, j, none⟩ g _ (by show g ≠ p; omega)]; exact hh, r⟩

theorem owns_base {w : World} {b0 b1 : Nat} {e : TypeId} {v : Value} {n : Nat} {xs : List Value} (h : w.ownsRow b1 e 1 v n xs) (hb : b0 ≤ b1) : w.ownsRow b0 e 1 v n xs := by
  refine ⟨h.1, ?_⟩
  rcases h.2 with h2 | ⟨g, cap, cur, hv, hg, r⟩
  · exact .inl h2
  · exact .inr ⟨g, cap, cur, hv, Nat.le_trans hb hg, r⟩

theorem cells_at {w : World} {p : Nat} {C : Array Value} {t : TypeId} (h : w.heap[p]? = some (.cells C t (0, 0))) (j : Nat) : w.cell? ⟨p, j, none⟩ = C[j]? := by
  simp [World.cell?, h]

theorem frozen_at {w : World} {p : Nat} {C : Array Value} {t : TypeId} (h : w.heap[p]? = some (.cells C t (0, 0))) (j : Nat) : w.frozen? ⟨p, j, none⟩ = false := by
  simp [World.frozen?, h]

theorem grown_set (w : World) (p j : Nat) (v : Value) : w.grownBy (w.setCell ⟨p, j, none⟩ v) (some p) := ⟨rfl, rfl, rfl, by simp, fun k _ hk => heap_setCell_other w ⟨p, j, none⟩ k _ (fun e => hk (by simp [e]))⟩

theorem grown_drewN (w : World) (n : Nat) (row : Option Nat) : w.grownBy (w.drewN n) row := ⟨rfl, rfl, rfl, Nat.le_refl _, fun _ _ _ => rfl⟩

theorem grown_trans {a b c : World} {row : Option Nat} (h : a.grownBy b row) (k : b.grownBy c row) : a.grownBy c row :=
  ⟨k.os.trans h.os, k.tape.trans h.tape, k.output.trans h.output, Nat.le_trans h.size k.size, fun i hi hr => (k.block i (Nat.lt_of_lt_of_le hi h.size) hr).trans (h.block i hi hr)⟩

theorem lt_of_heap {w : World} {p : Nat} {o : Obj} (h : w.heap[p]? = some o) : p < w.heap.size := by
  rcases Nat.lt_or_ge p w.heap.size with hl | hl
  · exact hl
  · rw [Array.getElem?_eq_none hl] at h; cases h
end Go.Proofs.YtidoieolejkflaaGreat
namespace Go.Proofs.YtidoieolejkflaaGreat
open Go.RowKit

def flat {α : Type} (enc : α → List Value) (xs : List α) : List Value := xs.flatMap enc

section
variable {α : Type} {enc : α → List Value} {sz : Nat}

theorem flat_cons (x : α) (xs : List α) : flat enc (x :: xs) = enc x ++ flat enc xs := rfl

theorem flat_len (h : ∀ a, (enc a).length = sz) (xs : List α) : (flat enc xs).length = xs.length * sz := by
  induction xs with
  | nil => simp [flat]
  | cons x xs ih => rw [flat_cons, List.length_append, h, ih, List.length_cons, Nat.add_mul, Nat.one_mul, Nat.add_comm]

theorem flat_get (h : ∀ a, (enc a).length = sz) : ∀ (xs : List α) (i r : Nat) (x : α), xs[i]? = some x → r < sz → (flat enc xs)[i * sz + r]? = (enc x)[r]?
  | [], i, r, x, hx, _ => by simp at hx
  | y :: ys, 0, r, x, hx, hr => by
    simp at hx
    subst hx
    rw [flat_cons, Nat.zero_mul, Nat.zero_add, List.getElem?_append_left (by rw [h]; exact hr)]
  | y :: ys, i + 1, r, x, hx, hr => by
    have e : (i + 1) * sz + r = sz + (i * sz + r) := by rw [Nat.add_mul, Nat.one_mul]; omega
    rw [flat_cons, List.getElem?_append_right (by rw [h, e]; omega), h, e, Nat.add_sub_cancel_left]
    exact flat_get h ys i r x (by simpa using hx) hr

/-- cells laid one behind another, from off on -/
def setL : List Value → Nat → List Value → List Value
  | xs, _, [] => xs
  | xs, off, v :: vs => setL (xs.set off v) (off + 1) vs

theorem setL_append (a b : List Value) : ∀ (off : Nat) (vs : List Value), setL (a ++ b) (a.length + off) vs = a ++ setL b off vs
  | _, [] => rfl
  | off, v :: vs => by
    unfold setL
    rw [List.set_append_right _ _ (by omega), Nat.add_sub_cancel_left]
    exact setL_append a (b.set off v) (off + 1) vs

theorem setL_head : ∀ (vs b c : List Value), b.length = vs.length → setL (b ++ c) 0 vs = vs ++ c
  | [], b, c, h => by
    have : b = [] := List.length_eq_zero_iff.1 (by simpa using h)
    subst this
    rfl
  | v :: vs, [], c, h => by simp at h
  | v :: vs, x :: b, c, h => by
    have h2 : setL ([v] ++ (b ++ c)) ([v].length + 0) vs = [v] ++ setL (b ++ c) 0 vs := setL_append [v] (b ++ c) 0 vs
    unfold setL
    simp only [List.cons_append, List.set_cons_zero]
    simp only [List.cons_append, List.nil_append, List.length_cons, List.length_nil, Nat.add_zero] at h2
    rw [Nat.zero_add, h2, setL_head vs b c (by simpa using h)]

theorem flat_set (h : ∀ a, (enc a).length = sz) : ∀ (xs : List α) (k : Nat) (x : α), k < xs.length → setL (flat enc xs) (k * sz) (enc x) = flat enc (xs.set k x)
  | [], k, x, hk => by simp at hk
  | y :: ys, 0, x, _ => by
    rw [Nat.zero_mul, flat_cons, setL_head _ _ _ (by rw [h, h]), List.set_cons_zero, flat_cons]
  | y :: ys, k + 1, x, hk => by
    have e : (k + 1) * sz = (enc y).length + k * sz := by rw [h, Nat.add_mul, Nat.one_mul, Nat.add_comm]
    rw [flat_cons, e, setL_append, flat_set h ys k x (by simpa using hk), List.set_cons_succ, flat_cons]
end

/-- the cells of 'make([]T, n)' -/
theorem made_flat {α : Type} {enc : α → List Value} {sz : Nat} (h : ∀ a, (enc a).length = sz) (z : Array Value) (x : α) (hz : z.toList = enc x) (hs : 0 < sz) (n : Nat) : (madeCells z (n * sz)).toList = flat enc (List.replicate n x) := by
  have hzs : z.size = sz := by rw [← Array.length_toList, hz, h]
  apply List.ext_getElem?
  intro j
  by_cases hj : j < n * sz
  · have e : j = j / sz * sz + j % sz := by rw [Nat.mul_comm]; exact (Nat.div_add_mod j sz).symm
    have hd : j / sz < n := Nat.div_lt_of_lt_mul (by rw [Nat.mul_comm]; exact hj)
    have hm : j % sz < sz := Nat.mod_lt _ hs
    have g := flat_get h (List.replicate n x) (j / sz) (j % sz) x (by simp [hd]) hm
    rw [← e] at g
    rw [g]
    have hm2 : j % sz < z.size := by rw [hzs]; exact hm
    have e2 : (enc x)[j % sz]? = some z[j % sz] := by
      rw [← hz]
      simp [hm2]
    rw [e2]
    simp [madeCells, hj, hzs, getElem!_pos z (j % sz) hm2]
  · rw [List.getElem?_eq_none (by simp [size_madeCells]; omega), List.getElem?_eq_none (by rw [flat_len h]; simp; omega)]

/-- the slice v has n elements of sz cells; cell j (of n * sz) holds f j; all lie in a block below B -/
def RowAt (W : World) (v : Value) (n sz : Nat) (f : Nat → Value) (B : Nat) : Prop :=
  ∃ a cap, v = .slice a n cap ∧ (n = 0 ∨ ∃ b off, a = some ⟨b, off, none⟩ ∧ b < B ∧ ∀ j, j < n * sz → W.cell? ⟨b, off + j, none⟩ = some (f j))

theorem RowAt.later {W W' : World} {v : Value} {n sz : Nat} {f : Nat → Value} {B C : Nat} (h : RowAt W v n sz f B) (hb : Below C W W') (hBC : B ≤ C) : RowAt W' v n sz f B := by
  obtain ⟨a, cap, hv, h2⟩ := h
  refine ⟨a, cap, hv, ?_⟩
  rcases h2 with h0 | ⟨b, off, ha, hb1, hx⟩
  · exact .inl h0
  · exact .inr ⟨b, off, ha, hb1, fun j hj => by rw [hb.cell (p := ⟨b, off + j, none⟩) (by show b < C; omega)]; exact hx j hj⟩

theorem RowAt.more {W : World} {v : Value} {n sz : Nat} {f : Nat → Value} {B C : Nat} (h : RowAt W v n sz f B) (hBC : B ≤ C) : RowAt W v n sz f C := by
  obtain ⟨a, cap, hv, h2⟩ := h
  refine ⟨a, cap, hv, ?_⟩
  rcases h2 with h0 | ⟨b, off, ha, hb1, hx⟩
  · exact .inl h0
  · exact .inr ⟨b, off, ha, by omega, hx⟩

/-- the same row in a later world, all of it below that world's end -/
theorem RowAt.then {W W' : World} {v : Value} {n sz : Nat} {f : Nat → Value} (h : RowAt W v n sz f W.heap.size) (hb : Below W.heap.size W W') : RowAt W' v n sz f W'.heap.size := (h.later hb (Nat.le_refl _)).more hb.size

/-- a row of structs: the cells of its elements -/
def StructsAt {α : Type} (enc : α → List Value) (sz : Nat) (W : World) (v : Value) (xs : List α) (B : Nat) : Prop := RowAt W v xs.length sz (fun j => (flat enc xs).getD j undef) B

section
variable {α : Type} {enc : α → List Value} {sz : Nat}

theorem StructsAt.cell {W : World} {v : Value} {xs : List α} {B : Nat} (h : StructsAt enc sz W v xs B) (hs : ∀ a, (enc a).length = sz) (i : Nat) (x : α) (hx : xs[i]? = some x) :
    ∃ b off cap, v = .slice (some ⟨b, off, none⟩) xs.length cap ∧ b < B ∧ ∀ r u, (enc x)[r]? = some u → W.cell? ⟨b, off + i * sz + r, none⟩ = some u := by
  have hi : i < xs.length := (List.getElem?_eq_some_iff.1 hx).1
  obtain ⟨a, cap, hv, h2⟩ := h
  rcases h2 with h0 | ⟨b, off, ha, hb, hc⟩
  · omega
  · refine ⟨b, off, cap, by rw [hv, ha], hb, fun r u hu => ?_⟩
    have hr : r < sz := by have := (List.getElem?_eq_some_iff.1 hu).1; rw [hs] at this; exact this
    have hg := flat_get hs xs i r x hx hr
    have hlt : i * sz + r < xs.length * sz := by
      have : (i + 1) * sz ≤ xs.length * sz := Nat.mul_le_mul_right _ hi
      rw [Nat.add_mul, Nat.one_mul] at this
      omega
    rw [Nat.add_assoc, hc _ hlt]
    simp only [List.getD_eq_getElem?_getD, hg, hu]
    rfl

theorem owns_rowAt {W : World} {base : Nat} {e : TypeId} {v : Value} {xs : List α} (h : W.ownsRow base e sz v xs.length (flat enc xs)) : StructsAt enc sz W v xs W.heap.size := by
  rcases h.2 with ⟨hv, h0⟩ | ⟨g, cap, cur, hv, hg, hh, hnc, hcm, hcs, htk⟩
  · exact ⟨none, 0, by rw [hv, h0], .inl h0⟩
  · have hlt : g < W.heap.size := by
      rcases Nat.lt_or_ge g W.heap.size with hl | hl
      · exact hl
      · rw [Array.getElem?_eq_none hl] at hh; cases hh
    refine ⟨_, cap, hv, .inr ⟨g, 0, rfl, hlt, fun j hj => ?_⟩⟩
    rw [Nat.zero_add]
    simp only [World.cell?, hh]
    have hj2 : j < cur.size := by
      have : xs.length * sz ≤ cap * sz := Nat.mul_le_mul_right _ hnc
      omega
    have e1 : (flat enc xs)[j]? = cur.toList[j]? := by rw [← htk, List.getElem?_take_of_lt hj]
    simp [List.getD, e1, hj2]
end
end Go.Proofs.YtidoieolejkflaaGreat
namespace Go.Proofs.YtidoieolejkflaaGreat
open Go.RowKit

theorem ret_bool_no {p : Prop} [Decidable p] (h : ¬ p) : Ending.returned (.bool false) = .returned (.bool (decide p)) := by rw [decide_eq_false h]

theorem ret_bool_yes {p : Prop} [Decidable p] (h : p) : Ending.returned (.bool true) = .returned (.bool (decide p)) := by rw [decide_eq_true h]

theorem below_two {w : World} (o1 o2 : Obj) : Below w.heap.size w ((w.alloc o1).alloc o2) := ((Below.refl _ _).alloc (Nat.le_refl _) _).alloc (by simp) _

theorem below_three {w : World} (o1 o2 o3 : Obj) : Below w.heap.size w (((w.alloc o1).alloc o2).alloc o3) := (below_two o1 o2).alloc (by simp; omega) _

/-- 'make([]T, n)' of structs -/
theorem wpList_make_structs {α : Type} {enc : α → List Value} {sz : Nat} (hsz : ∀ a, (enc a).length = sz) (hpos : 0 < sz) {P : Program} (w : World) {ops : Array Oper} {rest : List Oper} {o : Oper} {a : Act} {Q : Exit → Act → World → Prop}
    (hg : o.guard = none) (l c : Operand) (t : TypeId) (hop : o.op = Op.makeSlice t l c) (base : Nat) (e : TypeId) (i : TypeInfo) (z : Value) (x : α) (hz : z.cells.toList = enc x)
    (h1 : P.underlying t = some (.slice e)) (h2 : P.info? e = some i) (h3 : i.zero = some z) (h4 : i.size = sz) (n : Nat) (hl : a.eval l = .int .i64 (n : Int)) (hc : a.eval c = .int .i64 (n : Int)) (b2 : i.bytes * n ≤ 281474976710656) (b3 : n ≤ maxLen) (b4 : base ≤ w.heap.size)
    (hK : ∀ w', w'.ownsRow base e sz (.slice (some ⟨w.heap.size, 0, none⟩) n n) n (flat enc (List.replicate n x)) → w.grownBy w' none → wpList P ops Q rest (a.put o.dst (.slice (some ⟨w.heap.size, 0, none⟩) n n)) w') :
    wpList P ops Q (o :: rest) a w :=
  wpList_make_full w hg l c t hop base e i z sz h1 h2 h3 h4 .i64 .i64 (n : Int) (n : Int) n hl hc rfl rfl b2 b3 b4 (fun w' k1 k2 => hK w' (by rw [← made_flat hsz z.cells x hz hpos]; exact k1) k2)

/-- k of them copied -/
def part {α : Type} (xs : List α) (z : α) (k : Nat) : List α := xs.take k ++ List.replicate (xs.length - k) z

theorem part_len {α : Type} (xs : List α) (z : α) (k : Nat) (h : k ≤ xs.length) : (part xs z k).length = xs.length := by simp [part]; omega

theorem part_step {α : Type} (xs : List α) (z x : α) (k : Nat) (h : xs[k]? = some x) : (part xs z k).set k x = part xs z (k + 1) := by
  obtain ⟨hk, e⟩ := List.getElem?_eq_some_iff.1 h
  unfold part
  rw [List.set_append_right _ _ (by simp; omega), List.length_take, Nat.min_eq_left (by omega), Nat.sub_self]
  have e2 : xs.length - k = (xs.length - (k + 1)) + 1 := by omega
  rw [e2, List.replicate_succ, List.set_cons_zero, List.take_succ_eq_append_getElem hk, e]
  simp

theorem part_all {α : Type} (xs : List α) (z : α) : part xs z xs.length = xs := by simp [part]

theorem ne_at {α : Type} {xs ys : List α} {k : Nat} {x y : α} (hx : xs[k]? = some x) (hy : ys[k]? = some y) (h : x ≠ y) : ¬ xs = ys := by
  rintro rfl
  rw [hx] at hy
  exact h (Option.some.inj hy)

theorem eq_all {α : Type} {xs ys : List α} (hl : xs.length = ys.length) (h : ∀ j, j < xs.length → xs[j]? = ys[j]?) : xs = ys := by
  apply List.ext_getElem?
  intro i
  by_cases hi : i < xs.length
  · exact h i hi
  · rw [List.getElem?_eq_none (by omega), List.getElem?_eq_none (by omega)]

theorem heap3_0 (w : World) (a b c : Obj) : (((w.alloc a).alloc b).alloc c).heap[w.heap.size]? = some a := by
  rw [Below.heap_alloc _ _ _ (by simp; omega), Below.heap_alloc _ _ _ (by simp), heap_alloc_new]

theorem heap3_1 (w : World) (a b c : Obj) : (((w.alloc a).alloc b).alloc c).heap[w.heap.size + 1]? = some b := by
  rw [Below.heap_alloc _ _ _ (by simp)]
  have := heap_alloc_new (w.alloc a) b
  simpa using this

theorem heap3_2 (w : World) (a b c : Obj) : (((w.alloc a).alloc b).alloc c).heap[w.heap.size + 1 + 1]? = some c := by
  have := heap_alloc_new ((w.alloc a).alloc b) c
  simpa using this

theorem ret_bool {a b : Bool} (h : b = a) : Ending.returned (.bool a) = .returned (.bool b) := by rw [h]
end Go.Proofs.YtidoieolejkflaaGreat
